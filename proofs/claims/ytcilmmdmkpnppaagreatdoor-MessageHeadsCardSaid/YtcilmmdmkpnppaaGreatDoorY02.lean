/-
  Contracts of functions and plain mathematics, text by text, each with its conditions ahead of it:
  Contract of value.Same. Memory that was there stays. Condition: a value of bulk at most 2^30.
  Rows of values that the call itself makes: what lies in them, and how one more is appended. No condition.
  Contracts of the document's CopyAll, Copy, Many, Desc: values in new memory. Memory that was there stays. Condition: values of bulk at most 2^30.
  What holds at the head of a round of fold at values: the stack, and the rows that are being made. No condition.
  Contracts of the two functions that value.Copy hands to fold: a value alone, with room for its kids; a kid appended. Condition: at most 2^30 kids.
  The rounds of fold at values: a kid is gone into; a value that is through is put to the one above it. No condition.
  What fold at int makes of a value, and what holds at the head of its rounds. No condition.
  Contract of fold at values, as value.Copy calls it: a value in new memory. Memory that was there stays. Condition: a value of bulk at most 2^30.
  Contracts of value.Copy, Many, Desc, Depth, Items, and of the document's Many and Desc. Memory that was there stays. Condition: values of bulk at most 2^30.
-/
import Derived.Test.YtcilmmdmkpnppaaGreatDoorY01
import Derived.Deep.LoopGhost
import Derived.Deep.RegionHeld3
import Derived.BigRegion
import Derived.Deep.DeepCutAuto
import Derived.Deep.CutRange
import Derived.Deep.RegionWith
import Derived.Deep.RegionLaw
section
namespace Go.Proofs.YtcilmmdmkpnppaaGreatDoor.Val
open Go.RowKit Utf V
theorem infoPair:(Tryz.prog.info? 139).map (fun i=>(i.zero,i.size,i.bytes))=some (some (.agg #[.slice none 0 0,.slice none 0 0]),2,48):=by kernel_rfl
structure SE where
 A:Option Addr
 l:Nat
 c:Nat
 ks:List V
def SE.val (s:SE):Value:=.slice s.A s.l s.c
def pflat (st:List (SE×SE)):List Value:=st.flatMap fun p=>[p.1.val,p.2.val]
theorem pflat_len (st:List (SE×SE)):(pflat st).length=st.length * 2:=by
 induction st with
 | nil=>rfl
 | cons p st ih=>simp only[pflat,List.flatMap_cons,List.length_append,List.length_cons,List.length_nil] at ih ⊢;omega
theorem pflat_append (a b:List (SE×SE)):pflat (a++b)=pflat a++pflat b:=by simp[pflat]
theorem pflat_one (x y:SE):pflat [(x,y)]=[x.val,y.val]:=rfl
def pweight (st:List (SE×SE)):Nat:=(st.map fun p=>2 * itemsL p.1.ks+1).sum
theorem pweight_snoc (st:List (SE×SE))(x y:SE):pweight (st++[(x,y)])=pweight st+2 * itemsL x.ks+1:=by simp[pweight];omega
def psame (st:List (SE×SE)):Bool:=st.all fun p=>sameL p.1.ks p.2.ks
theorem psame_snoc (st:List (SE×SE))(x y:SE):psame (st++[(x,y)])=(psame st&&sameL x.ks y.ks):=by simp[psame]
structure PS (w wr:World) (A:Option Addr) (n c:Nat) (st:List (SE×SE)) (q:Bool) (g:Nat):Prop where
 len:st.length=n
 own:wr.ownsRow w.heap.size 139 2 (.slice A n c) n (pflat st)
 ok:∀ p∈st,Kids false wr (fun i=>i < w.heap.size) p.1.ks p.1.A p.1.l p.1.c∧Kids false wr (fun i=>i < w.heap.size) p.2.ks p.2.A p.2.l p.2.c∧p.1.l=p.2.l
 hq:q=psame st
 hg:pweight st≤g
 below:Below w.heap.size w wr
 small:n≤g+1∧g≤4294967296
theorem Box.drew {w:World}{g:Nat}{x0 x1 x2 x3:Value}(h:Box w g x0 x1 x2 x3):Box w.drew g x0 x1 x2 x3:=h
theorem Box.new2 (w:World)(o:Obj)(x0 x1 x2 x3:Value):Box ((w.alloc o).alloc (.cells #[x0,x1,x2,x3] 44)) (w.heap.size+1) x0 x1 x2 x3:=by
 have:=Box.new (w.alloc o) x0 x1 x2 x3
 rwa [World.size_alloc] at this
theorem grown_of_below {w w':World}(h:Below w.heap.size w w'):w.grownBy w' none:=⟨h.os,h.tape,h.output,h.size,fun k hk _=>h.block k hk⟩
theorem PS.call {w wr w':World}{A:Option Addr}{n c:Nat}{st:List (SE×SE)}{q:Bool}{g:Nat}(h:PS w wr A n c st q g)(hb:Below wr.heap.size wr w'):PS w w' A n c st q g:=
 ⟨h.len,h.own.kept (grown_of_below hb) (by cases hv:(Value.slice A n c).ownBlock<;>simp),fun p hp=>by
  obtain⟨h1,h2,h3⟩:=h.ok p hp;exact⟨h1.keep fun i hi=>hb.block i (Nat.lt_of_lt_of_le hi h.below.size),h2.keep fun i hi=>hb.block i (Nat.lt_of_lt_of_le hi h.below.size),h3⟩,h.hq,h.hg,below_next h.below hb,h.small⟩
theorem PS.next {w wr:World}{G m c:Nat}{rest:List (SE×SE)}{x y x' y':SE}{q:Bool}{g:Nat}(h:PS w wr (some ⟨G,0,none⟩) (m+1) c (rest++[(x,y)]) q g)(hl:rest.length=m)(hG:w.heap.size≤G)
  (hx:Kids false wr (fun i=>i < w.heap.size) x'.ks x'.A x'.l x'.c) (hy:Kids false wr (fun i=>i < w.heap.size) y'.ks y'.A y'.l y'.c) (hxy:x'.l=y'.l) {k:Nat} (hk:itemsL x'.ks+k≤itemsL x.ks) :
  PS w ((wr.setCell ⟨G,m * 2,none⟩ x'.val).setCell ⟨G,m * 2+1,none⟩ y'.val) (some ⟨G,0,none⟩) (m+1) c (rest++[(x',y')]) (psame (rest++[(x',y')])) (g - 2 * k):=by
 have hown:=h.own;rw[pflat_append,pflat_one] at hown;have hfl:(pflat rest).length=m * 2:=by rw[pflat_len,hl]
 have h1:=(hown.stored (m * 2) x'.val).1;have h2:=(h1.stored (m * 2+1) y'.val).1;have e:((pflat rest++[x.val,y.val]).set (m * 2) x'.val).set (m * 2+1) y'.val=pflat (rest++[(x',y')]):=by
  rw[pflat_append,pflat_one,List.set_append_right _ _ (by omega),hfl,List.set_append_right _ _ (by omega),hfl,Nat.sub_self,show m * 2+1 - m * 2=1 by omega];rfl
 rw[e] at h2;have hg:=h.hg;rw[pweight_snoc] at hg;have hs:=h.small;have hk2:∀ i,i < w.heap.size→((wr.setCell ⟨G,m * 2,none⟩ x'.val).setCell ⟨G,m * 2+1,none⟩ y'.val).heap[i]? = wr.heap[i]?:=fun i hi=>
  (Below.heap_setCell _ _ _ _ (show i≠G by omega)).trans (Below.heap_setCell _ _ _ _ (show i≠G by omega))
 refine⟨by simp[hl],h2,fun p hp=>?_,rfl,by rw[pweight_snoc];omega,(h.below.setCell (p:=⟨G,m * 2,none⟩) hG _).setCell (p:=⟨G,m * 2+1,none⟩) hG _,?_⟩
 ·rcases List.mem_append.1 hp with hp | hp
  ·obtain⟨a1,a2,a3⟩:=h.ok p (by simp[hp]);exact⟨a1.keep hk2,a2.keep hk2,a3⟩
  ·simp at hp;subst hp;exact⟨hx.keep hk2,hy.keep hk2,hxy⟩
 ·have:m≤pweight rest:=by
   rw[←hl];clear hg hs hk2 e h2 h1 hfl hown hxy hx hy hG hl h hk
   induction rest with
   | nil=>simp
   | cons p r ih=>simp[pweight] at ih ⊢;omega
  omega
theorem PS.push {w w5 w6:World}{A5:Option Addr}{n c:Nat}{st:List (SE×SE)}{q:Bool}{g:Nat}(h:PS w w5 A5 n c st q g)(x y:SE)
  (hx:Kids false w5 (fun i=>i < w.heap.size) x.ks x.A x.l x.c) (hy:Kids false w5 (fun i=>i < w.heap.size) y.ks y.A y.l y.c) (hxy:x.l=y.l) {g' cap:Nat}
  (hown:w6.ownsRow w.heap.size 139 2 (.slice (some ⟨g',0,none⟩) (n+1) cap) (n+1) (pflat st++[x.val,y.val])) (o:Obj) (hg:(w5.alloc o).grownBy w6 (Value.slice A5 n c).ownBlock) {gn:Nat} (hw:g+2 * itemsL x.ks+1≤gn) (hgn:gn≤4294967296) :
  PS w w6 (some ⟨g',0,none⟩) (n+1) cap (st++[(x,y)]) (psame (st++[(x,y)])) gn:=by
 have hbl:=h.own.lt;have hs5:=h.below.size;have hk:∀ i,i < w.heap.size→w6.heap[i]? = w5.heap[i]?:=fun i hi=>
  (hg.block i (by simp;omega) (fun e=>by have:=(hbl i e.symm).1;omega)).trans (Below.heap_alloc _ _ _ (by omega))
 refine⟨by simp[h.len],by rw[pflat_append];exact hown,fun p hp=>?_,rfl,by rw[pweight_snoc];have:=h.hg;omega,(h.below.alloc hs5 o).grown hg (by simp;omega) (fun k hk=>(hbl k hk).1),?_⟩
 ·rcases List.mem_append.1 hp with hp | hp
  ·obtain⟨a1,a2,a3⟩:=h.ok p hp;exact⟨a1.keep hk,a2.keep hk,a3⟩
  ·simp at hp;subst hp;exact⟨hx.keep hk,hy.keep hk,hxy⟩
 ·have:=h.small;omega
theorem news2 (w:World)(x y:Value)(e:TypeId):∀ j u,[x,y][j]? = some u→(w.alloc (.cells #[x,y] e)).cell? ((⟨w.heap.size,0,none⟩:Addr).add j)=some u:=by
 intro j u hu;have hj:j < 2:=(List.getElem?_eq_some_iff.1 hu).1;obtain rfl | rfl:j=0∨j=1:=by omega
 ·rw[←hu];simp[Addr.add]
 ·rw[←hu];simp[Addr.add]
theorem same_alone (k n:Nat)(t:ByteArray)(ks:List V)(k' n':Nat)(t':ByteArray)(ks':List V):same (.mk k n t ks) (.mk k' n' t' ks')=(aloneB k k' n n' t t' ks.length ks'.length&&sameL ks ks'):=by
 rw[Bool.eq_iff_iff];simp only[same,aloneB,Bool.and_eq_true,beq_iff_eq,sameL_iff];refine⟨fun h=>⟨⟨h.1,by rw[h.2]⟩,h.2⟩,fun h=>⟨h.1.1,h.2⟩⟩
theorem PS.pop {w wr:World}{A:Option Addr}{m c:Nat}{rest:List (SE×SE)}{x y:SE}{q:Bool}{g:Nat}(h:PS w wr A (m+1) c (rest++[(x,y)]) q g)(hl:rest.length=m)(hx:x.l=0):PS w wr A m c rest q (g - 1):=by
 obtain⟨h1,h2,h3⟩:=h.ok (x,y) (by simp);have e1:x.ks=[]:=List.eq_nil_of_length_eq_zero (by rw[←h1.len];exact hx);have e2:y.ks=[]:=List.eq_nil_of_length_eq_zero (by rw[←h2.len,←h3];exact hx);have hown:=h.own;rw[pflat_append] at hown;have hg:=h.hg;rw[pweight_snoc] at hg;have hs:=h.small;refine⟨hl,own_pop hown (by rw[pflat_len,hl]) (by omega),fun p hp=>h.ok p (by simp[hp]),?_,by omega,h.below,by omega⟩;rw[h.hq,psame_snoc,e1,e2];simp[sameL]
set_option maxRecDepth 100000 in
set_option maxHeartbeats 1000000 in
theorem vsame_loop (k n:Nat)(t:ByteArray)(ks:List V)(A:Option Addr)(l c:Nat)(k' n':Nat)(t':ByteArray)(ks':List V)(A':Option Addr)(l' c':Nat)(w:World)(hN:bulkL ks≤1073741824)(hK:Kd w ks A l c)(hK':Kd w ks' A' l' c') :
  Calls Tryz.prog 68 #[.agg #[.int .u8 k,.int .u64 n,.string t,.slice A l c],.agg #[.int .u8 k',.int .u64 n',.string t',.slice A' l' c']] w (GivesB (aloneB k k' n n' t t' l l'&&sameL ks ks') w):=by
 have hx0:=two_boxes w (.cells #[.int .u8 k,.int .u64 n,.string t,.slice A l c] 44) (.cells #[.int .u8 k',.int .u64 n',.string t',.slice A' l' c'] 44);have hB1:=(Box.new w (.int .u8 k) (.int .u64 n) (.string t) (.slice A l c)).alloc (.cells #[.int .u8 k',.int .u64 n',.string t',.slice A' l' c'] 44);have hB2:=Box.new (w.alloc (.cells #[.int .u8 k,.int .u64 n,.string t,.slice A l c] 44)) (.int .u8 k') (.int .u64 n') (.string t') (.slice A' l' c');go_enter Tryz.func68,Tryz.ntmps68;go_wp2_with fail;refine(sameAlone_any k n t A l c k' n' t' A' l' c' _).mono ?_;rintro e w1 ⟨rfl,hb1⟩;have hb2:=below_next hx0 hb1;obtain⟨_,_,_,c13,_⟩:=(hB1.call hb1).all;obtain⟨_,_,_,c23,_⟩:=(hB2.call hb1).all;cases hq:aloneB k k' n n' t t' l l' with
 | false=>
  go_wp2;go_ret;exact⟨by rw[hq];rfl,hb2⟩
 | true=>
  have HQ:=Lib.hid (aloneB_iff hq);have HA:=Lib.hid hq;have hs1:=hb1.size;simp only[World.size_alloc] at hs1 c23;clear hq;go_wp2;have hil:=itemsL_le ks;have hPS:PS w (w1.alloc (.cells #[.slice A l c,.slice A' l' c'] 139)) (some ⟨w1.heap.size,0,none⟩) 1 1 [(⟨A,l,c,ks⟩,⟨A',l',c',ks'⟩)] (sameL ks ks') (2 * itemsL ks+1):=
   ⟨rfl,by have:=World.ownsRow_lit (e:=139) (size:=2) (base:=w.heap.size) w1 #[.slice A l c,.slice A' l' c'] 1 (by omega) (by unfold maxLen;omega) rfl;simpa [pflat,SE.val] using this,
    fun p hp=>by
     simp at hp;subst hp;exact⟨Kids.keep hK (fun i hi=>(hb2.alloc (by omega) _).block i hi),Kids.keep hK' (fun i hi=>(hb2.alloc (by omega) _).block i hi),HQ.out.2.2.2⟩,
    by simp[psame],by simp[pweight],hb2.alloc (by omega) _,by omega⟩
  go_loopg [5] (2 * itemsL ks+1) (fun g s wr=>∃ A1 n1 c1 st,s=.slice A1 n1 c1∧PS w wr A1 n1 c1 st (sameL ks ks') g)
  case atStart=>exact⟨_,_,_,_,rfl,hPS⟩
  case round=>
   obtain⟨A1,n1,c1,st,rfl,hS⟩:=hrel;clear hPS hB1 hB2 hx0 hb1 hb2 hs1 c13 c23;rcases Nat.eq_zero_or_pos n1 with rfl | hn1
   ·have hst:st=[]:=List.eq_nil_of_length_eq_zero hS.len;subst hst;have HR:=Lib.hid hS.hq;have hb:=hS.below;clear hS;go_wp2;go_ret;exact⟨by rw[HA.out,HR.out];rfl,hb⟩
   ·obtain⟨m,rfl⟩:∃ m,n1=m+1:=⟨n1 - 1,by omega⟩;obtain⟨rest,x,y,rfl⟩:∃ rest x y,st=rest++[(x,y)]:=by
     have hne:st≠[]:=fun e=>by have:=hS.len;rw[e] at this;simp at this
     exact⟨st.dropLast,(st.getLast hne).1,(st.getLast hne).2,by have:=List.dropLast_concat_getLast hne;exact this.symm⟩
    have hlen:rest.length=m:=by have:=hS.len;simp at this;omega
    obtain⟨G,rfl,hG1,hG2⟩:=own_form hS.own (by omega);have hsm:=hS.small;have hgk:1≤gk:=by have:=hS.hg;rw[pweight_snoc] at this;omega
    have own:=hS.own;rw[pflat_append,pflat_one] at own;have hfl:(pflat rest).length=m * 2:=by rw[pflat_len,hlen]
    have ct0:wr.cell? ⟨G,m * 2,none⟩=some x.val:=by rw[own.cellAt (m * 2) (by omega),List.getElem?_append_right (by omega),hfl];simp
    have ct1:wr.cell? ⟨G,m * 2+1,none⟩=some y.val:=by rw[own.cellAt (m * 2+1) (by omega),List.getElem?_append_right (by omega),hfl];simp
    have fz:∀ j,wr.frozen? ⟨G,j,none⟩=false:=own.frozenAt;have hcap:=own_cap own;obtain⟨hx,hy,hxy⟩:=hS.ok (x,y) (by simp);obtain⟨xA,xl,xc,xk⟩:=x;obtain⟨yA,yl,yc,yk⟩:=y;simp only[SE.val] at ct0 ct1 hx hy hxy own;subst hxy;have HL:=Lib.hid hlen;have HF:=Lib.hid hfl;clear hlen hfl;rcases Nat.eq_zero_or_pos xl with rfl | hxl
    ·obtain⟨hs1,hs2⟩:=cut_top Tryz.underlying140 (show Tryz.prog.elem 140=139 by kernel_rfl) (show (Tryz.prog.info? 139).map (·.size)=some 2 by kernel_rfl) (some ⟨G,0,none⟩) (m+1) c1 m (by omega) hcap;have hs1':=hs1 wr (m:Int) rfl;have hs2':=hs2 wr (m:Int) rfl;clear hs1 hs2;go_wp2;go_roundg (gk - 1)
     case measure=>omega
     case rel=>exact⟨_,_,_,_,rfl,hS.pop HL.out rfl⟩
    ·obtain⟨b,o,k1,n1,t1,ks1,B1,l1,d1,rfl,hb1,hx1,h0,h1,h2,h3,hk1,hn1,hK1⟩:=Kids.at_ hx hxl;obtain⟨b',o',k2,n2,t2,ks2,B2,l2,d2,rfl,hb2,hx2,h0',h1',h2',h3',hk2,hn2,hK2⟩:=Kids.at_ hy hxl;simp only[Nat.zero_mul,Nat.add_zero] at h0 h1 h2 h3 h0' h1' h2' h3';have hsz:=hS.below.size;have hbw:b < wr.heap.size:=Nat.lt_of_lt_of_le hb1 hsz;have hbw':b' < wr.heap.size:=Nat.lt_of_lt_of_le hb2 hsz;have hxI:(0:Int) < (xl:Int):=by omega
     have HX1:=Lib.hid hx1;have HX2:=Lib.hid hx2;clear hx1 hx2 hN;obtain⟨C1,e1,he1,hsx1,hsx2,hsx3⟩:=cut_vals (some ⟨b,o,none⟩) xl xc 1 (by omega) hx.cap;obtain⟨C2,e2,he2,hsy1,hsy2,hsy3⟩:=cut_vals (some ⟨b',o',none⟩) xl yc 1 (by omega) hy.cap;have sx1:=fun W=>hsx1 W 1 rfl;have sx2:=fun W=>hsx2 W 1 rfl;have sy1:=fun W=>hsy1 W 1 rfl;have sy2:=fun W=>hsy2 W 1 rfl;clear hsx1 hsx2 hsy1 hsy2;go_upto_region 8 with fail
     go_cut [7,8] (fun s7 s8 wx=>∃ gx gy,s7=.pointer (some ⟨gx,0,none⟩)∧s8=.pointer (some ⟨gy,0,none⟩)∧Box wx gx (.int .u8 k1) (.int .u64 n1) (.string t1) (.slice B1 l1 d1)∧Box wx gy (.int .u8 k2) (.int .u64 n2) (.string t2) (.slice B2 l2 d2)∧wr.heap.size≤gx∧wr.heap.size≤gy∧Below wr.heap.size wr wx)
     case first=>
      go_region
      ·go_wp2_with fail;go_meet;exact⟨_,_,rfl,rfl,((Box.new wr _ _ _ _).alloc _).drew,(Box.new2 wr _ _ _ _ _).drew,by omega,by omega,(two_boxes _ _ _).drew⟩
      ·go_wp2_with fail;go_meet;exact⟨_,_,rfl,rfl,(Box.new2 wr _ _ _ _ _).drew,((Box.new wr _ _ _ _).alloc _).drew,by omega,by omega,(two_boxes _ _ _).drew⟩
     case rest=>
      obtain⟨gx,gy,rfl,rfl,hbx,hby,hgx,hgy,hbc⟩:=hcut;have hS2:=hS.call hbc;have cw0:=(hbc.cell (p:=⟨G,m * 2,none⟩) hG2).trans ct0;have cw1:=(hbc.cell (p:=⟨G,m * 2+1,none⟩) hG2).trans ct1;have fw:∀ j,wc.frozen? ⟨G,j,none⟩=false:=fun j=>(hbc.frozen (p:=⟨G,j,none⟩) hG2).trans (fz j);have hsc:=hbc.size;have hgGx:gx≠G:=by omega
      have hgGy:gy≠G:=by omega
      obtain⟨wz,hwz⟩:∃ wz,wz=(wc.setCell ⟨G,m * 2,none⟩ (.slice C1 (xl - 1) e1)).setCell ⟨G,m * 2+1,none⟩ (.slice C2 (xl - 1) e2):=⟨_,rfl⟩;obtain⟨xt,hxt⟩:∃ xt,xk.drop 1=xt:=⟨_,rfl⟩;obtain⟨yt,hyt⟩:∃ yt,yk.drop 1=yt:=⟨_,rfl⟩;have HXT:=Lib.hid hxt;have HYT:=Lib.hid hyt;clear hxt hyt;have hS3:=hS2.next (x':=⟨C1,xl - 1,e1,xt⟩) (y':=⟨C2,xl - 1,e2,yt⟩) HL.out hG1
       (HXT.out▸hsx3 _ _ _ _ (hx.keep fun i hi=>hbc.block i (Nat.lt_of_lt_of_le hi hsz))) (HYT.out▸hsy3 _ _ _ _ (hy.keep fun i hi=>hbc.block i (Nat.lt_of_lt_of_le hi hsz))) rfl
       (k:=itemsL ks1+1) (by have:=drop_at HX1.out;rw[List.drop_zero,HXT.out] at this;rw[this];simp only[itemsL,items];omega)
      have hbx3:=(hbx.far (p:=⟨G,m * 2,none⟩) hgGx (.slice C1 (xl - 1) e1)).far (p:=⟨G,m * 2+1,none⟩) hgGx (.slice C2 (xl - 1) e2);have hby3:=(hby.far (p:=⟨G,m * 2,none⟩) hgGy (.slice C1 (xl - 1) e1)).far (p:=⟨G,m * 2+1,none⟩) hgGy (.slice C2 (xl - 1) e2);have hw3:wz.heap.size=wc.heap.size:=by rw[hwz];simp
      simp only[SE.val] at hS3;rw[←hwz] at hS3 hbx3 hby3;obtain⟨x30,x31,x32,x33,_⟩:=hbx3.all;obtain⟨y30,y31,y32,y33,_⟩:=hby3.all;have HW3:=Lib.hid hw3;clear hw3;go_wp2_with fail;go_region;rw[←hwz];have HWZ:=Lib.hid hwz;clear hwz;go_wp2_with fail;refine(sameAlone_any k1 n1 t1 B1 l1 d1 k2 n2 t2 B2 l2 d2 wz.drew).mono ?_;rintro e w5 ⟨rfl,hb5⟩;have hS5:=(hS3.call (Below.refl _ _).drew).call hb5;obtain⟨_,_,_,x53,_⟩:=(hbx3.drew.call hb5).all;obtain⟨_,_,_,y53,_⟩:=(hby3.drew.call hb5).all;have HQ5:Hid (sameL ks ks'=((aloneB k1 k2 n1 n2 t1 t2 l1 l2&&sameL ks1 ks2)&&psame (rest++[(⟨C1,xl - 1,e1,xt⟩,⟨C2,xl - 1,e2,yt⟩)]))):=Lib.hid (by
       have a1:=drop_at HX1.out;have a2:=drop_at HX2.out;rw[List.drop_zero,HXT.out] at a1;rw[List.drop_zero,HYT.out] at a2;rw[hS.hq,psame_snoc,psame_snoc,show sameL xk yk=(same (.mk k1 n1 t1 ks1) (.mk k2 n2 t2 ks2)&&sameL xt yt) by conv=>lhs;rw[a1,a2,sameL]];rw[same_alone,hK1.len,hK2.len];cases psame rest<;>cases aloneB k1 k2 n1 n2 t1 t2 ks1.length ks2.length<;>simp)
      have hgg:pweight rest+2 * itemsL xk+1≤gk:=by have:=hS.hg;rwa [pweight_snoc] at this
      have hit:itemsL ks1+1≤itemsL xk:=by
       have a1:=drop_at HX1.out;rw[List.drop_zero] at a1;rw[a1];simp only[itemsL,items];omega
      have hbz:Below w.heap.size wr wz:=by
       rw[HWZ.out];exact((hbc.mono hsz).setCell (p:=⟨G,m * 2,none⟩) hG1 _).setCell (p:=⟨G,m * 2+1,none⟩) hG1 _
      have hb35:Below w.heap.size wr w5:=hbz.drew.trans (hb5.mono (by have:=hbz.size;simp;omega));have hK15:Kids false w5 (fun i=>i < w.heap.size) ks1 B1 l1 d1:=hK1.keep fun i hi=>hb35.block i hi;have hK25:Kids false w5 (fun i=>i < w.heap.size) ks2 B2 l2 d2:=hK2.keep fun i hi=>hb35.block i hi;clear x30 x31 x32 x33 y30 y31 y32 y33 hbx3 hby3 hbx hby;cases hq:aloneB k1 k2 n1 n2 t1 t2 l1 l2 with
      | false=>
       rw[hq,Bool.false_and,Bool.false_and] at HQ5;have hb:=hS5.below;clear hq hS5 hS3 hS2 hS hbz hb35 hK15 hK25 hbc hb5;go_wp2;go_ret;exact⟨by rw[HQ5.out,Bool.and_false];rfl,hb⟩
      | true=>
       rw[hq,Bool.true_and] at HQ5;obtain⟨_,_,_,hll⟩:=aloneB_iff hq;subst hll;clear hq;rcases Nat.eq_zero_or_pos l1 with h0l | hl1
       ·subst h0l;have e1k:ks1=[]:=List.eq_nil_of_length_eq_zero hK1.len.symm;have e2k:ks2=[]:=List.eq_nil_of_length_eq_zero hK2.len.symm;subst e1k;subst e2k;have hq5:=HQ5.out;simp only[sameL,Bool.true_and] at hq5;have HS:=Lib.hid (show PS w w5 _ _ _ _ (sameL ks ks') _ from hq5▸hS5);clear HQ5 hq5 hS5 hS3 hS2 hS hbz hb35 hK15 hK25 hbc hb5 own;go_wp2;go_roundg (gk - 2 * (itemsL []+1))
        case measure=>omega
        case rel=>exact⟨_,_,_,_,rfl,HS.out⟩
       ·have hl1I:decide ((0:Int) < (l1:Int))=true:=by simp;omega
        have HS:=Lib.hid hS5;have hown5:=hS5.own;have hs5:=hS5.below.size;have hm4:m+1≤4294967297:=by omega
        clear hS5 hS3 hS2 hS hbz hb35 hbc hb5 own;obtain⟨i0,hi,hz0,hz1,hz2⟩:=info_parts infoPair;go_wp2_with (at_builtin;refine wpList_append_lies _ rfl _ _ 140 rfl w.heap.size 139 i0 _ 2 48 Tryz.underlying140 hi hz0 hz1 hz2 rfl (by omega) _ _ _ rfl (hown5.alloc _) ⟨w5.heap.size,0,none⟩ 1 1 [.slice B1 l1 d1,.slice B2 l1 d2] rfl rfl (news2 w5 _ _ _) (fun u hu=>(by simp at hu;rcases hu with rfl | rfl<;>rfl)) (by omega) (by unfold maxLen;omega) (by omega) (by simp;omega) _ rfl ?_;intro g9 cap9 w9 hown9 hgrow9 _ _);go_roundg (gk - 1)
        case measure=>omega
        case rel=>
         have h9:=HS.out.push ⟨B1,l1,d1,ks1⟩ ⟨B2,l1,d2,ks2⟩ hK15 hK25 rfl hown9 _ hgrow9 (gn:=gk - 1) (by simp only;omega) (by omega);rw[psame_snoc,Bool.and_comm,←HQ5.out] at h9;exact⟨_,_,_,_,rfl,h9⟩
end Go.Proofs.YtcilmmdmkpnppaaGreatDoor.Val
end
section
namespace Go.Proofs.YtcilmmdmkpnppaaGreatDoor.Val
open Go.RowKit Utf V
def CellsOf (w:World)(P:Nat→Prop):List V→List Value→Prop
 | [],xs=>xs=[]
 | .mk k n t ks::vs,xs=>∃ A l c ys,xs=.int .u8 (k:Int)::.int .u64 (n:Int)::.string t::.slice A l c::ys∧k < 256∧n < 18446744073709551616∧Kids true w P ks A l c∧CellsOf w P vs ys
theorem CellsOf.len {w:World}{P:Nat→Prop}:∀ {vs:List V} {xs:List Value},CellsOf w P vs xs→xs.length=vs.length * 4
 | [],xs,h=>by rw[show xs=[] from h];rfl
 | .mk k n t ks::vs,xs,h=>by
  obtain⟨A,l,c,ys,rfl,_,_,_,hr⟩:=h;simp[hr.len];omega
theorem CellsOf.keep {w w':World}{P:Nat→Prop}(hk:∀ i,P i→w'.heap[i]? = w.heap[i]?):∀ {vs:List V} {xs:List Value},CellsOf w P vs xs→CellsOf w' P vs xs
 | [],_,h=>h
 | .mk _ _ _ _::_,_,h=>by
  obtain⟨A,l,c,ys,e,a1,a2,a3,hr⟩:=h;exact⟨A,l,c,ys,e,a1,a2,a3.keep hk,hr.keep hk⟩
theorem CellsOf.mono {w:World}{P P':Nat→Prop}(hk:∀ i,P i→P' i):∀ {vs:List V} {xs:List Value},CellsOf w P vs xs→CellsOf w P' vs xs
 | [],_,h=>h
 | .mk _ _ _ _::_,_,h=>by
  obtain⟨A,l,c,ys,e,a1,a2,a3,hr⟩:=h;exact⟨A,l,c,ys,e,a1,a2,a3.mono hk,hr.mono hk⟩
theorem CellsOf.snoc {w:World}{P:Nat→Prop}{k n:Nat}{t:ByteArray}{ks:List V}{A:Option Addr}{l c:Nat}(hk:k < 256)(hn:n < 18446744073709551616)(hK:Kids true w P ks A l c) :
  ∀ {vs:List V} {xs:List Value},CellsOf w P vs xs→CellsOf w P (vs++[.mk k n t ks]) (xs++[.int .u8 (k:Int),.int .u64 (n:Int),.string t,.slice A l c])
 | [],xs,h=>by
  rw[show xs=[] from h];exact⟨A,l,c,[],rfl,hk,hn,hK,rfl⟩
 | .mk _ _ _ _::_,_,h=>by
  obtain⟨A',l',c',ys,rfl,a1,a2,a3,hr⟩:=h;exact⟨A',l',c',_,rfl,a1,a2,a3,CellsOf.snoc hk hn hK hr⟩
theorem CellsOf.row {w:World}{P:Nat→Prop}{b:Nat}:∀ {vs:List V} {xs:List Value} {o:Nat},(∀ j u,xs[j]? = some u→w.cell? ⟨b,o+j,none⟩=some u)→CellsOf w P vs xs→RowL true w P vs b o
 | [],_,_,_,_=>trivial
 | .mk k n t ks::vs,_,o,hc,h=>by
  obtain⟨A,l,c,ys,rfl,a1,a2,a3,hr⟩:=h;refine⟨repV_iff.2 ⟨A,l,c,hc 0 _ rfl,hc 1 _ rfl,hc 2 _ rfl,hc 3 _ rfl,a1,a2,a3⟩,hr.row fun j u hu=>?_⟩;have:=hc (j+4) u (by simpa using hu)
  rwa [show o+(j+4)=o+4+j by omega] at this
structure CS (B:Nat) (wr:World) (A:Option Addr) (n c:Nat) (done:List V) (xs:List Value):Prop where
 own:wr.ownsRow B 44 4 (.slice A n c) n xs
 cells:CellsOf wr (fun i=>B≤i∧i < wr.heap.size∧(Value.slice A n c).ownBlock≠some i) done xs
theorem CS.len {B:Nat}{wr:World}{A:Option Addr}{n c:Nat}{done:List V}{xs:List Value}(h:CS B wr A n c done xs):done.length=n:=by
 have:=h.own.1;have:=h.cells.len;omega
theorem CS.nil (B:Nat)(wr:World):CS B wr none 0 0 [] []:=⟨World.ownsRow_nil _ _ _ _,rfl⟩
theorem CS.call {B:Nat}{wr w':World}{A:Option Addr}{n c:Nat}{done:List V}{xs:List Value}(h:CS B wr A n c done xs)(hb:Below wr.heap.size wr w'):CS B w' A n c done xs:=
 ⟨h.own.kept (grown_of_below hb) (by cases hv:(Value.slice A n c).ownBlock<;>simp),(h.cells.keep fun i hi=>hb.block i hi.2.1).mono fun i hi=>⟨hi.1,Nat.lt_of_lt_of_le hi.2.1 hb.size,hi.2.2⟩⟩
theorem CS.drew {B:Nat}{wr:World}{A:Option Addr}{n c:Nat}{done:List V}{xs:List Value}(h:CS B wr A n c done xs):CS B wr.drew A n c done xs:=h.call (Below.refl _ _).drew
theorem CS.nw {B:Nat}{wr:World}{A:Option Addr}{n c:Nat}{done:List V}{xs:List Value}(h:CS B wr A n c done xs):Nw B wr done A n c:=by
 refine⟨h.len.symm,own_cap h.own,fun hn=>?_⟩;rcases h.own.2 with ⟨_,h0⟩ | ⟨g,cap,cur,hv,hb,hg,hnc,hcm,hcs,htake⟩
 ·omega
 ·injection hv with h1 _ h3
  subst h1;subst h3;refine⟨g,0,rfl,⟨hb,(Array.getElem?_eq_some_iff.1 hg).1⟩,fun _=>⟨cur,hg⟩,(h.cells.mono fun i hi=>⟨hi.1,hi.2.1⟩).row fun j u hu=>?_⟩;rw[Nat.zero_add,h.own.cellAt j (by rw[←h.own.1];exact(List.getElem?_eq_some_iff.1 hu).1),hu]
theorem CS.cast {B:Nat}{wr:World}{A:Option Addr}{n c:Nat}{done done':List V}{xs:List Value}(h:CS B wr A n c done xs)(e:done=done'):CS B wr A n c done' xs:=e▸h
theorem CS.push {B:Nat}{wr w2 w3:World}{A:Option Addr}{n c:Nat}{done:List V}{xs:List Value}(h:CS B w2 A n c done xs){k m:Nat}{t:ByteArray}{ks:List V}{A':Option Addr}{l' c':Nat}(hk:k < 256)(hm:m < 18446744073709551616)
  (hK:Kids true w2 (fun i=>B≤i∧i < w2.heap.size∧(Value.slice A n c).ownBlock≠some i) ks A' l' c') {g cap:Nat} (o:Obj) (hr:wr=w2.alloc o)
  (hown:w3.ownsRow B 44 4 (.slice (some ⟨g,0,none⟩) (n+1) cap) (n+1) (xs++[.int .u8 (k:Int),.int .u64 (m:Int),.string t,.slice A' l' c'])) (hg:wr.grownBy w3 (Value.slice A n c).ownBlock) (hat:(Value.slice A n c).ownBlock=some g∨w2.heap.size≤g) :
  CS B w3 (some ⟨g,0,none⟩) (n+1) cap (done++[.mk k m t ks]) (xs++[.int .u8 (k:Int),.int .u64 (m:Int),.string t,.slice A' l' c']):=by
 subst hr;have hk1:∀ i,(B≤i∧i < w2.heap.size∧(Value.slice A n c).ownBlock≠some i)→w3.heap[i]? = w2.heap[i]?:=fun i hi=>
  (hg.block i (by simp;omega) (fun e=>hi.2.2 e.symm)).trans (Below.heap_alloc _ _ _ hi.2.1)
 have hk2:∀ i,(B≤i∧i < w2.heap.size∧(Value.slice A n c).ownBlock≠some i)→(B≤i∧i < w3.heap.size∧(Value.slice (some ⟨g,0,none⟩) (n+1) cap).ownBlock≠some i):=fun i hi=>by
  refine⟨hi.1,?_,fun e=>?_⟩
  ·have:=hg.size;simp at this;omega
  ·have e2:g=i:=by simpa [Value.ownBlock] using e
   subst e2;rcases hat with ha | ha
   ·exact hi.2.2 ha
   ·omega
 exact⟨hown,CellsOf.snoc hk hm ((hK.keep hk1).mono hk2) ((h.cells.keep hk1).mono hk2)⟩
end Go.Proofs.YtcilmmdmkpnppaaGreatDoor.Val
end
section
namespace Go.Proofs.YtcilmmdmkpnppaaGreatDoor.Val
open Go.RowKit Utf V
def GivesN (k n:Nat)(t:ByteArray)(ks:List V)(w:World)(e:Ending)(w':World):Prop:=∃ A l c,e=.returned (.agg #[.int .u8 k,.int .u64 n,.string t,.slice A l c])∧Nw w.heap.size w' ks A l c∧Below w.heap.size w w'
theorem Nw.far {B:Nat}{w:World}{ks:List V}{A:Option Addr}{l c:Nat}(h:Nw B w ks A l c){p:Addr}(hp:p.block < B)(u:Value):Nw B (w.setCell p u) ks A l c:=
 (h.keep fun i hi=>Below.heap_setCell w p u i (by have:=hi.1;omega)).mono fun i hi=>⟨hi.1,by have:=hi.2;simpa using this⟩
theorem Nw.far4 {B:Nat}{w:World}{ks:List V}{A:Option Addr}{l c:Nat}(h:Nw B w ks A l c){g:Nat}(hp:g < B)(x0 x1 x2 x3:Value):Nw B ((((w.setCell ⟨g,0,none⟩ x0).setCell ⟨g,1,none⟩ x1).setCell ⟨g,2,none⟩ x2).setCell ⟨g,3,none⟩ x3) ks A l c:=
 (((h.far (p:=⟨g,0,none⟩) hp _).far (p:=⟨g,1,none⟩) hp _).far (p:=⟨g,2,none⟩) hp _).far (p:=⟨g,3,none⟩) hp _
theorem news4 (w:World)(x y z u:Value)(e:TypeId)(H:Nat)(hH:w.heap.size=H):∀ j v,[x,y,z,u][j]? = some v→(w.alloc (.cells #[x,y,z,u] e)).cell? ((⟨H,0,none⟩:Addr).add j)=some v:=by
 subst hH;intro j v hv;have hj:j < 4:=(List.getElem?_eq_some_iff.1 hv).1;obtain rfl | rfl | rfl | rfl:j=0∨j=1∨j=2∨j=3:=by omega
 all_goals rw[←hv];simp[Addr.add]
end Go.Proofs.YtcilmmdmkpnppaaGreatDoor.Val
end
section
namespace Go.Proofs.YtcilmmdmkpnppaaGreatDoor.Val
open Go.RowKit Utf V
structure RE where
 A:Option Addr
 m:Nat
 c:Nat
 done:List V
def RE.ob (r:RE):Option Nat:=(Value.slice r.A r.m r.c).ownBlock
structure VE where
 x:SE
 k:Nat
 n:Nat
 t:ByteArray
 r:RE
def vflat (st:List VE):List Value:=st.flatMap fun p=>[p.x.val,.int .u8 (p.k:Int),.int .u64 (p.n:Int),.string p.t,.slice p.r.A p.r.m p.r.c]
theorem vflat_len (st:List VE):(vflat st).length=st.length * 5:=by
 induction st with
 | nil=>rfl
 | cons p st ih=>simp only[vflat,List.flatMap_cons,List.length_append,List.length_cons,List.length_nil] at ih ⊢;omega
theorem vflat_append (a b:List VE):vflat (a++b)=vflat a++vflat b:=by simp[vflat]
theorem vflat_one (p:VE):vflat [p]=[p.x.val,.int .u8 (p.k:Int),.int .u64 (p.n:Int),.string p.t,.slice p.r.A p.r.m p.r.c]:=rfl
def vweight (st:List VE):Nat:=(st.map fun p=>2 * itemsL p.x.ks+1).sum
theorem vweight_snoc (st:List VE)(p:VE):vweight (st++[p])=vweight st+2 * itemsL p.x.ks+1:=by simp[vweight];omega
theorem vw_len (st:List VE):st.length≤vweight st:=by
 induction st with
 | nil=>simp
 | cons p r ih=>simp[vweight] at ih ⊢;omega
def goV (rest:List VE)(v:V):V:=rest.foldr (fun p v=>.mk p.k p.n p.t (p.r.done++v::p.x.ks)) v
theorem goV_snoc (rest:List VE)(p:VE)(v:V):goV (rest++[p]) v=goV rest (.mk p.k p.n p.t (p.r.done++v::p.x.ks)):=by simp[goV]
def Pst (B:Nat)(w:World)(G:Nat)(rs:List RE)(i:Nat):Prop:=B≤i∧i < w.heap.size∧i≠G∧∀ r∈rs,r.ob≠some i
structure Rows (B:Nat) (w:World) (G:Nat) (rs:List RE):Prop where
 row:∀ r∈rs,∃ xs,w.ownsRow B 44 4 (.slice r.A r.m r.c) r.m xs∧CellsOf w (Pst B w G rs) r.done xs∧r.ob≠some G
 dis:rs.Pairwise fun r r'=>∀ b,r.ob=some b→r'.ob≠some b
theorem Rows.move {B:Nat}{w w':World}{G G':Nat}{rs:List RE}(h:Rows B w G rs)(hk:∀ i,B≤i→i < w.heap.size→i≠G→w'.heap[i]? = w.heap[i]?)(hs:w.heap.size≤w'.heap.size)(hG:G'=G∨w.heap.size≤G'):Rows B w' G' rs:=by
 refine⟨fun r hr=>?_,h.dis⟩;obtain⟨xs,ho,hc,hg⟩:=h.row r hr;have hlt:=ho.lt;refine⟨xs,?_,(hc.keep fun i hi=>hk i hi.1 hi.2.1 hi.2.2.1).mono fun i hi=>⟨hi.1,by have:=hi.2.1;omega,by have h1:=hi.2.1;have h2:=hi.2.2.1;omega,hi.2.2.2⟩,fun e=>?_⟩
 ·refine⟨ho.1,?_⟩;rcases ho.2 with hn | ⟨g,cap,cur,hv,hb,hgg,hrest⟩
  ·exact .inl hn
  ·have hob:r.ob=some g:=by unfold RE.ob;rw[hv];rfl
   have hgl:=hlt g hob;exact .inr ⟨g,cap,cur,hv,hb,(hk g hb hgl.2 (fun e=>hg (by rw[hob,e]))).trans hgg,hrest⟩
 ·have:=hlt G' e;rcases hG with rfl | hG
  ·exact hg e
  ·omega
theorem Pst.less {B:Nat}{w:World}{G:Nat}{rs rs':List RE}{i:Nat}(h:Pst B w G rs i)(hs:∀ r∈rs',r∈rs):Pst B w G rs' i:=⟨h.1,h.2.1,h.2.2.1,fun r hr=>h.2.2.2 r (hs r hr)⟩
theorem Rows.begin {B:Nat}{w w':World}{G G':Nat}{rs:List RE}(h:Rows B w G rs)(hk:∀ i,B≤i→i < w.heap.size→i≠G→w'.heap[i]? = w.heap[i]?)(hs:w.heap.size≤w'.heap.size)(hG:G'=G∨w.heap.size≤G')
  {r:RE} (hd:r.done=[]) (hown:w'.ownsRow B 44 4 (.slice r.A r.m r.c) r.m []) (hnew:∀ b,r.ob=some b→w.heap.size≤b) (hrG:r.ob≠some G'):Rows B w' G' (rs++[r]):=by
 refine⟨fun r' hr'=>?_,List.pairwise_append.2 ⟨h.dis,List.pairwise_singleton _ _,fun a ha b hb=>?_⟩⟩
 ·rcases List.mem_append.1 hr' with hr' | hr'
  ·obtain⟨xs,ho,hc,hg⟩:=h.row r' hr';obtain⟨_,ho',_,hg'⟩:=(h.move hk hs hG).row r' hr';have hxs:∃ ys,w'.ownsRow B 44 4 (.slice r'.A r'.m r'.c) r'.m ys∧ys=xs:=by
    have hlt:=ho.lt;refine⟨xs,⟨ho.1,?_⟩,rfl⟩;rcases ho.2 with hn | ⟨g,cap,cur,hv,hb,hgg,hrest⟩
    ·exact .inl hn
    ·have hob:r'.ob=some g:=by unfold RE.ob;rw[hv];rfl
     have hgl:=hlt g hob;exact .inr ⟨g,cap,cur,hv,hb,(hk g hb hgl.2 (fun e=>hg (by rw[hob,e]))).trans hgg,hrest⟩
   obtain⟨_,ho2,rfl⟩:=hxs;refine⟨_,ho2,(hc.keep fun i hi=>hk i hi.1 hi.2.1 hi.2.2.1).mono fun i hi=>⟨hi.1,by have:=hi.2.1;omega,by have h1:=hi.2.1;have h2:=hi.2.2.1;omega,fun q hq e=>?_⟩,hg'⟩;rcases List.mem_append.1 hq with hq | hq
   ·exact hi.2.2.2 q hq e
   ·rw[List.mem_singleton.1 hq] at e;have:=hnew i e;have:=hi.2.1;omega
  ·rw[List.mem_singleton.1 hr'];exact⟨[],hown,by rw[hd];rfl,hrG⟩
 ·rw[List.mem_singleton.1 hb];intro i hi e;have:=hnew i e;obtain⟨_,ho,_,_⟩:=h.row a ha;have:=(ho.lt i hi).2;omega
theorem Rows.fuse {B:Nat}{w w':World}{G:Nat}{rs:List RE}{a z:RE}(h:Rows B w G (rs++[a,z]))(hG:G < w.heap.size){k n:Nat}{t:ByteArray}(hk:k < 256)(hn:n < 18446744073709551616){xs:List Value}(hcs:CellsOf w (Pst B w G (rs++[a,z])) a.done xs)
  {g c:Nat} (hown:w'.ownsRow B 44 4 (.slice (some ⟨g,0,none⟩) (a.m+1) c) (a.m+1) (xs++[.int .u8 (k:Int),.int .u64 (n:Int),.string t,.slice z.A z.m z.c])) (hg:w.grownBy w' a.ob) (hat:a.ob=some g∨w.heap.size≤g) :
  Rows B w' G (rs++[⟨some ⟨g,0,none⟩,a.m+1,c,a.done++[.mk k n t z.done]⟩]):=by
 obtain⟨hd1,hd2,hd3⟩:=List.pairwise_append.1 h.dis;obtain⟨ys,hyo,hyc,hyg⟩:=h.row z (by simp);obtain⟨_,hao,_,hag⟩:=h.row a (by simp);have haz:∀ b,a.ob=some b→z.ob≠some b:=by
  have:=List.pairwise_cons.1 hd2;exact this.1 z (by simp)
 -- what was made lies as it lay
 have hmv:∀ i,Pst B w G (rs++[a]) i→w'.heap[i]? = w.heap[i]?:=fun i hi=>hg.block i hi.2.1 (fun e=>hi.2.2.2 a (by simp) e.symm);have hP:∀ i,Pst B w G (rs++[a]) i→Pst B w' G (rs++[⟨some ⟨g,0,none⟩,a.m+1,c,a.done++[.mk k n t z.done]⟩]) i:=fun i hi=>by
  refine⟨hi.1,Nat.lt_of_lt_of_le hi.2.1 hg.size,hi.2.2.1,fun r hr e=>?_⟩;rcases List.mem_append.1 hr with hr | hr
  ·exact hi.2.2.2 r (by simp[hr]) e
  ·rw[List.mem_singleton.1 hr] at e;have e2:g=i:=by simpa [RE.ob,Value.ownBlock] using e
   subst e2;rcases hat with ha | ha
   ·exact hi.2.2.2 a (by simp) ha
   ·have:=hi.2.1;omega
 have hless:∀ i,Pst B w G (rs++[a,z]) i→Pst B w G (rs++[a]) i:=fun i hi=>hi.less (fun r hr=>by simp at hr ⊢;rcases hr with hr | hr<;>simp[hr]);have hzK:Kids true w (Pst B w G (rs++[a])) z.done z.A z.m z.c:=by
  have hCS:CS B w z.A z.m z.c z.done ys:=⟨hyo,hyc.mono fun i hi=>⟨hi.1,hi.2.1,hi.2.2.2 z (by simp)⟩⟩;refine⟨hCS.len.symm,own_cap hyo,fun hl=>?_⟩;rcases hyo.2 with ⟨_,h0⟩ | ⟨gz,cap,cur,hv,hb,hgz,_⟩
  ·omega
  ·have hob:z.ob=some gz:=by unfold RE.ob;rw[hv];rfl
   injection hv with h1 _ h3
   refine⟨gz,0,h1,⟨hb,(hyo.lt gz hob).2,fun e=>hyg (by rw[hob,e]),fun r hr e=>?_⟩,fun _=>⟨cur,hgz⟩,(hyc.mono hless).row fun j u hu=>?_⟩
   ·rcases List.mem_append.1 hr with hr | hr
    ·exact hd3 r hr z (by simp) gz e hob
    ·rw[List.mem_singleton.1 hr] at e;exact haz gz e hob
   ·have hyo':w.ownsRow B 44 4 (.slice (some ⟨gz,0,none⟩) z.m z.c) z.m ys:=by rw[←h1];exact hyo
    rw[Nat.zero_add,hyo'.cellAt j (by rw[←hyo.1];exact(List.getElem?_eq_some_iff.1 hu).1),hu]
 refine⟨fun r hr=>?_,List.pairwise_append.2 ⟨hd1,List.pairwise_singleton _ _,fun p hp q hq=>?_⟩⟩
 ·rcases List.mem_append.1 hr with hr | hr
  ·obtain⟨rx,ho,hc,hg2⟩:=h.row r (by simp[hr]);refine⟨rx,ho.kept hg ?_,((hc.mono hless).keep hmv).mono hP,hg2⟩;cases hob:r.ob with
   | none=>exact .inl hob
   | some b=>
    refine .inr fun e=>?_;have e2:a.ob=some b:=by
     have e3:r.ob=a.ob:=e;rw[←e3,hob]
    exact hd3 r hr a (by simp) b hob e2
  ·rw[List.mem_singleton.1 hr];refine⟨_,hown,CellsOf.snoc hk hn ((hzK.keep hmv).mono hP) (((hcs.mono hless).keep hmv).mono hP),fun e=>?_⟩;have e2:g=G:=by simpa [RE.ob,Value.ownBlock] using e
   subst e2;rcases hat with ha | ha
   ·exact hag ha
   ·omega
 ·rw[List.mem_singleton.1 hq];intro b hb e;have e2:g=b:=by simpa [RE.ob,Value.ownBlock] using e
  subst e2;rcases hat with ha | ha
  ·exact hd3 p hp a (by simp) g hb ha
  ·obtain⟨_,ho,_,_⟩:=h.row p (by simp[hp]);have:=(ho.lt g hb).2;omega
end Go.Proofs.YtcilmmdmkpnppaaGreatDoor.Val
namespace Go.Proofs.YtcilmmdmkpnppaaGreatDoor.Val
set_option maxRecDepth 100000
open Go.RowKit Utf V
theorem box_grown {w w':World}{g:Nat}{x0 x1 x2 x3:Value}(h:Box w g x0 x1 x2 x3){row:Option Nat}(hg:w.grownBy w' row)(hne:row≠some g):Box w' g x0 x1 x2 x3:=(hg.block g h.lt (fun e=>hne e.symm)).trans h
def GivesA (k n:Nat)(t:ByteArray)(w:World)(e:Ending)(w':World):Prop:=∃ A c,e=.returned (.agg #[.int .u8 k,.int .u64 n,.string t,.slice A 0 c])∧w'.ownsRow w.heap.size 44 4 (.slice A 0 c) 0 []∧Below w.heap.size w w'
theorem grown_setCell (w:World)(p:Addr)(u:Value):w.grownBy (w.setCell p u) (some p.block):=
 ⟨rfl,rfl,rfl,by simp,fun k _ hk=>Below.heap_setCell w p u k (fun e=>hk (by rw[e]))⟩
theorem own_far {w:World}{base:Nat}{e:TypeId}{size n:Nat}{v:Value}{xs:List Value}(h:w.ownsRow base e size v n xs){p:Addr}(hp:v.ownBlock≠some p.block)(u:Value):(w.setCell p u).ownsRow base e size v n xs:=
 h.kept (grown_setCell w p u) (.inr hp)
theorem own_far4 {w:World}{base:Nat}{e:TypeId}{size n:Nat}{v:Value}{xs:List Value}(h:w.ownsRow base e size v n xs){g:Nat}(hp:v.ownBlock≠some g)(x0 x1 x2 x3:Value) :
  ((((w.setCell ⟨g,0,none⟩ x0).setCell ⟨g,1,none⟩ x1).setCell ⟨g,2,none⟩ x2).setCell ⟨g,3,none⟩ x3).ownsRow base e size v n xs:=
 own_far (p:=⟨g,3,none⟩) (own_far (p:=⟨g,2,none⟩) (own_far (p:=⟨g,1,none⟩) (own_far (p:=⟨g,0,none⟩) h hp _) hp _) hp _) hp _
set_option maxHeartbeats 800000 in
theorem copyA_any (k n:Nat)(t:ByteArray)(A:Option Addr)(l c:Nat)(w:World)(hl:l≤1073741824) :
  Calls Tryz.prog 159 #[.agg #[.int .u8 k,.int .u64 n,.string t,.slice A l c]] w (GivesA k n t w):=by
 obtain⟨i0,hi,hz0,hz1,hz2⟩:=info_parts infoV;have hW:=((two_boxes w (.cells #[.int .u8 k,.int .u64 n,.string t,.slice A l c] 44) (.cells #[.int .u8 0,.int .u64 0,.string ⟨#[]⟩,.slice none 0 0] 44)).alloc (by simp;omega) (.cells #[.int .u8 k,.int .u64 n,.string t,.slice none 0 0] 44));have b1:=(Box.new2 w (.cells #[.int .u8 k,.int .u64 n,.string t,.slice A l c] 44) (.int .u8 0) (.int .u64 0) (.string ⟨#[]⟩) (.slice none 0 0)).alloc (.cells #[.int .u8 k,.int .u64 n,.string t,.slice none 0 0] 44);have b2:=Box.new2 (w.alloc (.cells #[.int .u8 k,.int .u64 n,.string t,.slice A l c] 44)) (.cells #[.int .u8 0,.int .u64 0,.string ⟨#[]⟩,.slice none 0 0] 44) (.int .u8 k) (.int .u64 n) (.string t) (.slice none 0 0);simp only[World.size_alloc] at b2;rcases Nat.eq_zero_or_pos l with rfl | h0
 ·go_enter Tryz.func159,Tryz.ntmps159;go_wp2;refine bodyPost_ret (v:=.agg #[.int .u8 k,.int .u64 n,.string t,.slice none 0 0]) (by simp[results,Tryz.results159,go_sem]) rfl ?_;exact⟨none,0,rfl,World.ownsRow_nil _ _ _ _,((two_boxes w _ _).alloc (by simp;omega) _)⟩
 ·have hI:decide ((0:Int) < (l:Int))=true:=by simp;omega
  have HW:=Lib.hid hW;clear hW;go_enter Tryz.func159,Tryz.ntmps159;go_wp2_with (at_make;refine wpList_make_own _ rfl _ _ 42 rfl w.heap.size 44 i0 _ 4 Tryz.underlying42 hi hz0 hz1 .i64 .i64 (l:Int) l rfl rfl rfl (by rw[hz2];omega) (by unfold maxLen;omega) (by simp;omega) ?_;intro w2 hown2 hgrow2;have hbm:=(Below.refl _ _).grown hgrow2 (Nat.le_refl _) (fun _ h=>(by cases h));have hb2:=below_next HW.out hbm;have hb1':=b1.call hbm;have hb2':=b2.call hbm;obtain⟨x0,x1,x2,x3,xf⟩:=hb1'.all;obtain⟨y0,y1,y2,y3,yf⟩:=hb2'.all;simp only[World.size_alloc] at hown2;have hown3:=Lib.hid hown2;clear hown2);refine bodyPost_ret (v:=.agg #[.int .u8 k,.int .u64 n,.string t,.slice (some ⟨w.heap.size+1+1+1,0,none⟩) 0 l]) (by simp[results,Tryz.results159,go_sem,x0,x1,x2,x3]) rfl ?_;refine⟨_,_,rfl,own_far4 (own_far (p:=⟨w.heap.size+1+1,3,none⟩) hown3.out ?_ _) ?_ _ _ _ _,below_set4 (hb2.setCell (p:=⟨w.heap.size+1+1,3,none⟩) (by simp only;omega) _) (by omega) _ _ _ _⟩
  ·simp[Value.ownBlock]<;>omega
  ·simp[Value.ownBlock]<;>omega
def GivesP (k n:Nat)(t:ByteArray)(m B:Nat)(xs ys:List Value)(ob:Option Nat)(w:World)(e:Ending)(w':World):Prop:=
 ∃ g c,e=.returned (.agg #[.int .u8 k,.int .u64 n,.string t,.slice (some ⟨g,0,none⟩) (m+1) c])∧w'.ownsRow B 44 4 (.slice (some ⟨g,0,none⟩) (m+1) c) (m+1) (xs++ys)∧w.grownBy w' ob∧(ob=some g∨w.heap.size≤g)
set_option maxHeartbeats 800000 in
theorem copyP_any (k n:Nat)(t:ByteArray)(A:Option Addr)(m c B:Nat)(xs:List Value)(k' n':Nat)(t':ByteArray)(A':Option Addr)(l' c':Nat)(w:World)(hm:m≤1073741824)(hB:B≤w.heap.size)(hown:w.ownsRow B 44 4 (.slice A m c) m xs) :
  Calls Tryz.prog 161 #[.agg #[.int .u8 k,.int .u64 n,.string t,.slice A m c],.agg #[.int .u8 k',.int .u64 n',.string t',.slice A' l' c']] w
   (GivesP k n t m B xs [.int .u8 k',.int .u64 n',.string t',.slice A' l' c'] (Value.slice A m c).ownBlock w):=by
 obtain⟨i0,hi,hz0,hz1,hz2⟩:=info_parts infoV;have hOB:=hown.lt;have hW:=((two_boxes w (.cells #[.int .u8 k,.int .u64 n,.string t,.slice A m c] 44) (.cells #[.int .u8 k',.int .u64 n',.string t',.slice A' l' c'] 44)).alloc (by simp;omega) (.cells #[.int .u8 0,.int .u64 0,.string ⟨#[]⟩,.slice none 0 0] 44));have b0:=((Box.new w (.int .u8 k) (.int .u64 n) (.string t) (.slice A m c)).alloc (.cells #[.int .u8 k',.int .u64 n',.string t',.slice A' l' c'] 44)).alloc (.cells #[.int .u8 0,.int .u64 0,.string ⟨#[]⟩,.slice none 0 0] 44);have b2:=Box.new2 (w.alloc (.cells #[.int .u8 k,.int .u64 n,.string t,.slice A m c] 44)) (.cells #[.int .u8 k',.int .u64 n',.string t',.slice A' l' c'] 44) (.int .u8 0) (.int .u64 0) (.string ⟨#[]⟩) (.slice none 0 0);simp only[World.size_alloc] at b2;have b0':=b0.alloc (.cells #[.int .u8 k',.int .u64 n',.string t',.slice A' l' c'] 44);have b2':=b2.alloc (.cells #[.int .u8 k',.int .u64 n',.string t',.slice A' l' c'] 44);have hW':=hW.alloc (by simp;omega) (.cells #[.int .u8 k',.int .u64 n',.string t',.slice A' l' c'] 44);have HW:=Lib.hid hW';have HOB:=Lib.hid hOB;clear hW hW' hOB b0 b2;go_enter Tryz.func161,Tryz.ntmps161;go_wp2_with (at_builtin;refine wpList_append_lies _ rfl _ _ 42 rfl B 44 i0 _ 4 56 Tryz.underlying42 hi hz0 hz1 hz2 rfl (by omega) _ _ _ rfl ((((hown.alloc _).alloc _).alloc _).alloc _) ⟨w.heap.size+1+1+1,0,none⟩ 1 1 [.int .u8 k',.int .u64 n',.string t',.slice A' l' c'] rfl rfl (news4 _ _ _ _ _ _ _ (by simp)) (fun u hu=>(by simp at hu;rcases hu with rfl | rfl | rfl | rfl<;>rfl)) (by omega) (by unfold maxLen;omega) (by omega) (by simp;omega) _ rfl ?_;intro g9 cap9 w9 hown9 hgrow9 hat9 _;have hx:=box_grown b0' hgrow9 (fun e=>(by have:=(HOB.out _ e).2;omega));have hy:=box_grown b2' hgrow9 (fun e=>(by have:=(HOB.out _ e).2;omega));obtain⟨x0,x1,x2,x3,xf⟩:=hx.all;obtain⟨y0,y1,y2,y3,yf⟩:=hy.all;have hown3:=Lib.hid hown9;have HG:=Lib.hid hgrow9;have HAT:=Lib.hid hat9;clear hown9 hgrow9 hat9 hown);refine bodyPost_ret (v:=.agg #[.int .u8 k,.int .u64 n,.string t,.slice (some ⟨g9,0,none⟩) (m+1) cap9]) (by simp[results,Tryz.results161,go_sem,y0,y1,y2,y3]) rfl ?_;have hne:(Value.slice A m c).ownBlock=some g9∨w.heap.size+1+1+1 < g9:=by
  rcases HAT.out with h | h
  ·exact .inl h
  ·right;simp at h;omega
 have hg9:g9≠w.heap.size∧g9≠w.heap.size+1+1:=by
  rcases hne with h | h
  ·have:=(HOB.out _ h).2;omega
  ·omega
 refine⟨g9,cap9,rfl,own_far4 (own_far (p:=⟨w.heap.size,3,none⟩) hown3.out ?_ _) ?_ _ _ _ _,?_,?_⟩
 ·simp[Value.ownBlock];omega
 ·simp[Value.ownBlock];omega
 ·have hb:=HW.out;have hg:=HG.out;have hs:=hg.size;simp at hs;refine⟨hg.os.trans hb.os,hg.tape.trans hb.tape,hg.output.trans hb.output,by simp;omega,fun i hi hne=>?_⟩;have e4:∀ (W:World) (a b c d:Value),((((W.setCell ⟨w.heap.size+1+1,0,none⟩ a).setCell ⟨w.heap.size+1+1,1,none⟩ b).setCell ⟨w.heap.size+1+1,2,none⟩ c).setCell ⟨w.heap.size+1+1,3,none⟩ d).heap[i]? = W.heap[i]?:=fun W a b c d=>
   (Below.heap_setCell _ _ _ _ (by simp only;omega)).trans ((Below.heap_setCell _ _ _ _ (by simp only;omega)).trans ((Below.heap_setCell _ _ _ _ (by simp only;omega)).trans (Below.heap_setCell _ _ _ _ (by simp only;omega))))
  rw[e4,Below.heap_setCell _ _ _ _ (show i≠w.heap.size by omega),hg.block i (by simp;omega) hne];exact hb.block i hi
 ·rcases hne with h | h
  ·exact .inl h
  ·right;omega
end Go.Proofs.YtcilmmdmkpnppaaGreatDoor.Val
namespace Go.Proofs.YtcilmmdmkpnppaaGreatDoor.Val
set_option maxRecDepth 100000
open Go.RowKit Utf V
theorem infoStepV:(Tryz.prog.info? 196).map (fun i=>(i.zero,i.size,i.bytes))=some (some (.agg #[.slice none 0 0,.int .u8 0,.int .u64 0,.string ⟨#[]⟩,.slice none 0 0]),5,80):=by kernel_rfl
structure VS (T:Nat) (W0 wr:World) (G n c:Nat) (rest:List VE) (z:VE) (q:V) (g:Nat):Prop where
 len:rest.length+1=n
 own:wr.ownsRow W0.heap.size 196 5 (.slice (some ⟨G,0,none⟩) n c) n (vflat (rest++[z]))
 rows:Rows W0.heap.size wr G ((rest++[z]).map (·.r))
 ok:∀ p∈rest++[z],Kids false wr (fun i=>i < W0.heap.size) p.x.ks p.x.A p.x.l p.x.c∧p.k < 256∧p.n < 18446744073709551616∧p.r.m+itemsL p.x.ks≤T
 cnt:∀ p∈rest,p.r.m+1+itemsL p.x.ks≤T
 hq:q=goV rest (.mk z.k z.n z.t (z.r.done++z.x.ks))
 hg:vweight (rest++[z])≤g
 below:Below W0.heap.size W0 wr
 small:n≤g∧g≤4294967296
theorem vset0 (rest:List VE)(z:VE)(m:Nat)(hl:rest.length=m)(v:Value):(vflat (rest++[z])).set (m * 5) v=vflat rest++[v,.int .u8 (z.k:Int),.int .u64 (z.n:Int),.string z.t,.slice z.r.A z.r.m z.r.c]:=by
 have hfl:(vflat rest).length=m * 5:=by rw[vflat_len,hl]
 rw[vflat_append,vflat_one,List.set_append_right _ _ (by omega),hfl,Nat.sub_self];rfl
theorem vset4 (rest:List VE)(z:VE)(m:Nat)(hl:rest.length=m)(a b c d:Value)(ys:List Value):((((vflat (rest++[z])++ys).set (m * 5+1) a).set (m * 5+2) b).set (m * 5+3) c).set (m * 5+4) d=vflat rest++[z.x.val,a,b,c,d]++ys:=by
 have hfl:(vflat rest).length=m * 5:=by rw[vflat_len,hl]
 rw[vflat_append,vflat_one,List.append_assoc,List.set_append_right _ _ (by omega),List.set_append_right _ _ (by omega),List.set_append_right _ _ (by omega),List.set_append_right _ _ (by omega),hfl,
  show m * 5+1 - m * 5=1 by omega,show m * 5+2 - m * 5=2 by omega,show m * 5+3 - m * 5=3 by omega,show m * 5+4 - m * 5=4 by omega]
 simp
theorem VS.pop {T:Nat}{W0 wr w':World}{G m c:Nat}{rest:List VE}{a z:VE}{q:V}{g:Nat}(h:VS T W0 wr G (m+2) c (rest++[a]) z q g)(hl:rest.length=m)(hz:z.x.l=0){xs:List Value}
  (hcs:CellsOf wr (Pst W0.heap.size wr G ((rest++[a]++[z]).map (·.r))) a.r.done xs) {g9 cap9:Nat}
  (hown:w'.ownsRow W0.heap.size 44 4 (.slice (some ⟨g9,0,none⟩) (a.r.m+1) cap9) (a.r.m+1) (xs++[.int .u8 (z.k:Int),.int .u64 (z.n:Int),.string z.t,.slice z.r.A z.r.m z.r.c])) (hg:wr.grownBy w' a.r.ob) (hat:a.r.ob=some g9∨wr.heap.size≤g9) :
  VS T W0 ((((w'.setCell ⟨G,m * 5+1,none⟩ (.int .u8 (a.k:Int))).setCell ⟨G,m * 5+2,none⟩ (.int .u64 (a.n:Int))).setCell ⟨G,m * 5+3,none⟩ (.string a.t)).setCell ⟨G,m * 5+4,none⟩ (.slice (some ⟨g9,0,none⟩) (a.r.m+1) cap9)) G (m+1) c rest
   ⟨a.x,a.k,a.n,a.t,⟨some ⟨g9,0,none⟩,a.r.m+1,cap9,a.r.done++[.mk z.k z.n z.t z.r.done]⟩⟩ q (g - 1):=by
 obtain⟨hz1,hz2,hz3,hz4⟩:=h.ok z (by simp);obtain⟨ha1,ha2,ha3,ha4⟩:=h.ok a (by simp);have hac:=h.cnt a (by simp);have e1:z.x.ks=[]:=List.eq_nil_of_length_eq_zero (by rw[←hz1.len];exact hz);obtain⟨_,hao,_,haG⟩:=h.rows.row a.r (by simp);have hGl:=h.own.lt G (by simp[Value.ownBlock]);have hrows:Rows W0.heap.size wr G (rest.map (·.r)++[a.r,z.r]):=by have:=h.rows;simpa using this
 have hfuse:=hrows.fuse hGl.2 (t:=z.t) hz2 hz3 (by simpa using hcs) hown hg hat;have hown':w'.ownsRow W0.heap.size 196 5 (.slice (some ⟨G,0,none⟩) (m+2) c) (m+2) (vflat (rest++[a]++[z])):=h.own.kept hg (.inr (by
  simp only[Value.ownBlock];exact fun e=>haG e.symm))
 have h1:=(hown'.stored (m * 5+1) (.int .u8 (a.k:Int))).1;have h2:=(h1.stored (m * 5+2) (.int .u64 (a.n:Int))).1;have h3:=(h2.stored (m * 5+3) (.string a.t)).1;have h4:=(h3.stored (m * 5+4) (.slice (some ⟨g9,0,none⟩) (a.r.m+1) cap9)).1;rw[vflat_append (rest++[a]) [z],vset4 rest a m hl] at h4;have h5:=own_pop h4 (m:=m+1) (by simp[vflat_len,hl];omega) (by omega);have hw:=h.hg;rw[vweight_snoc] at hw;have hw2:=hw;rw[vweight_snoc] at hw2;have hs:=h.small;have hil:=vw_len (rest++[a]);rw[List.length_append,hl] at hil;simp only[List.length_cons,List.length_nil] at hil;rw[vweight_snoc] at hil;have hset:∀ (W:World) (x0 x1 x2 x3:Value) (i:Nat),i≠G→((((W.setCell ⟨G,m * 5+1,none⟩ x0).setCell ⟨G,m * 5+2,none⟩ x1).setCell ⟨G,m * 5+3,none⟩ x2).setCell ⟨G,m * 5+4,none⟩ x3).heap[i]? = W.heap[i]?:=fun W x0 x1 x2 x3 i hi=>
  (Below.heap_setCell _ _ _ _ hi).trans ((Below.heap_setCell _ _ _ _ hi).trans ((Below.heap_setCell _ _ _ _ hi).trans (Below.heap_setCell _ _ _ _ hi)))
 have hob:∀ i,i < W0.heap.size→w'.heap[i]? = wr.heap[i]?:=fun i hi=>hg.block i (Nat.lt_of_lt_of_le hi h.below.size) (fun e=>by
  have:=(hao.lt i e.symm).1;omega)
 refine⟨by omega,by rw[vflat_append,vflat_one];simpa using h5,?_,fun p hp=>?_,fun p hp=>h.cnt p (by simp[hp]),?_,by rw[vweight_snoc];simp only;omega,?_,by omega⟩
 ·have:=hfuse.move (w':=(((w'.setCell ⟨G,m * 5+1,none⟩ (.int .u8 (a.k:Int))).setCell ⟨G,m * 5+2,none⟩ (.int .u64 (a.n:Int))).setCell ⟨G,m * 5+3,none⟩ (.string a.t)).setCell ⟨G,m * 5+4,none⟩ (.slice (some ⟨g9,0,none⟩) (a.r.m+1) cap9)) (G':=G) (fun i _ _ hi=>hset _ _ _ _ _ i hi) (by simp) (.inl rfl)
  simpa using this
 ·have hkeep:∀ i,i < W0.heap.size→((((w'.setCell ⟨G,m * 5+1,none⟩ (.int .u8 (a.k:Int))).setCell ⟨G,m * 5+2,none⟩ (.int .u64 (a.n:Int))).setCell ⟨G,m * 5+3,none⟩ (.string a.t)).setCell ⟨G,m * 5+4,none⟩ (.slice (some ⟨g9,0,none⟩) (a.r.m+1) cap9)).heap[i]? = wr.heap[i]?:=fun i hi=>
   (hset _ _ _ _ _ i (by omega)).trans (hob i hi)
  rcases List.mem_append.1 hp with hp | hp
  ·obtain⟨a1,a2⟩:=h.ok p (by simp[hp]);exact⟨a1.keep hkeep,a2⟩
  ·rw[List.mem_singleton.1 hp];exact⟨ha1.keep hkeep,ha2,ha3,by simp only;omega⟩
 ·rw[h.hq,goV_snoc,e1,List.append_nil];simp
 ·have hbw:Below W0.heap.size W0 w':=h.below.grown hg h.below.size (fun k hk=>(hao.lt k hk).1);exact(((hbw.setCell (p:=⟨G,m * 5+1,none⟩) hGl.1 _).setCell (p:=⟨G,m * 5+2,none⟩) hGl.1 _).setCell (p:=⟨G,m * 5+3,none⟩) hGl.1 _).setCell (p:=⟨G,m * 5+4,none⟩) hGl.1 _
theorem VS.push {T:Nat}{W0 wr w6:World}{G m c:Nat}{rest:List VE}{z:VE}{x2 y:SE}{q:V}{g:Nat}{kk kn:Nat}{kt:ByteArray}(h:VS T W0 wr G (m+1) c rest z q g)(hkk:kk < 256)(hkn:kn < 18446744073709551616)
  (hx2:Kids false w6 (fun i=>i < W0.heap.size) x2.ks x2.A x2.l x2.c) (hy:Kids false w6 (fun i=>i < W0.heap.size) y.ks y.A y.l y.c) (hks:z.x.ks=.mk kk kn kt y.ks::x2.ks) {g' cap:Nat} {A1:Option Addr} {c1:Nat}
  (hown:w6.ownsRow W0.heap.size 196 5 (.slice (some ⟨g',0,none⟩) (m+1+1) cap) (m+1+1) (vflat rest++[x2.val,.int .u8 (z.k:Int),.int .u64 (z.n:Int),.string z.t,.slice z.r.A z.r.m z.r.c]++[y.val,.int .u8 (kk:Int),.int .u64 (kn:Int),.string kt,.slice A1 0 c1])) (hb:Below W0.heap.size wr w6)
  (hk:∀ i,W0.heap.size≤i→i < wr.heap.size→i≠G→w6.heap[i]? = wr.heap[i]?) (hG:g'=G∨wr.heap.size≤g') (hrow:w6.ownsRow W0.heap.size 44 4 (.slice A1 0 c1) 0 []) (hnew:∀ b,(Value.slice A1 0 c1).ownBlock=some b→wr.heap.size≤b) (hrG:(Value.slice A1 0 c1).ownBlock≠some g') :
  VS T W0 w6 g' (m+1+1) cap (rest++[⟨x2,z.k,z.n,z.t,z.r⟩]) ⟨y,kk,kn,kt,⟨A1,0,c1,[]⟩⟩ q (g - 1):=by
 have hw:=h.hg;rw[vweight_snoc,hks] at hw;simp only[itemsL,items] at hw;have hs:=h.small;obtain⟨hz1,hz2,hz3,hz4⟩:=h.ok z (by simp);rw[hks] at hz4;simp only[itemsL,items] at hz4;have hil:=vw_len rest;have hl:=h.len;have hkeep:∀ i,i < W0.heap.size→w6.heap[i]? = wr.heap[i]?:=fun i hi=>hb.block i hi;refine⟨by simp;omega,by rw[vflat_append,vflat_append,vflat_one,vflat_one];exact hown,?_,fun p hp=>?_,fun p hp=>?_,?_,by rw[vweight_snoc,vweight_snoc];simp only;omega,h.below.trans hb,by omega⟩
 ·have:=(h.rows.begin hk hb.size hG (r:=⟨A1,0,c1,[]⟩) rfl hrow hnew hrG)
  simpa using this
 ·simp only[List.append_assoc,List.mem_append,List.mem_cons,List.not_mem_nil,or_false] at hp;rcases hp with hp | rfl | rfl
  ·obtain⟨a1,a2⟩:=h.ok p (by simp[hp]);exact⟨a1.keep hkeep,a2⟩
  ·exact⟨hx2,hz2,hz3,by simp only;omega⟩
  ·exact⟨hy,hkk,hkn,by simp only;omega⟩
 ·rcases List.mem_append.1 hp with hp | hp
  ·exact h.cnt p hp
  ·rw[List.mem_singleton.1 hp];simp only;omega
 ·rw[h.hq,hks,goV_snoc];simp
end Go.Proofs.YtcilmmdmkpnppaaGreatDoor.Val
end
section
namespace Go.Proofs.YtcilmmdmkpnppaaGreatDoor.Val
open Go.RowKit Utf V
theorem vsame_any (k n:Nat)(t:ByteArray)(ks:List V)(A:Option Addr)(l c:Nat)(k' n':Nat)(t':ByteArray)(ks':List V)(A':Option Addr)(l' c':Nat)(w:World)(hN:bulkL ks≤1073741824)(hK:Kd w ks A l c)(hK':Kd w ks' A' l' c') :
  Calls Tryz.prog 68 #[.agg #[.int .u8 k,.int .u64 n,.string t,.slice A l c],.agg #[.int .u8 k',.int .u64 n',.string t',.slice A' l' c']] w (GivesB (same (.mk k n t ks) (.mk k' n' t' ks')) w):=by
 have h:=vsame_loop k n t ks A l c k' n' t' ks' A' l' c' w hN hK hK';rw[hK.len,hK'.len] at h ⊢;rw[same_alone];exact h
end Go.Proofs.YtcilmmdmkpnppaaGreatDoor.Val
end
section
namespace Go.Proofs.YtcilmmdmkpnppaaGreatDoor.Val
set_option maxRecDepth 100000
open Go.RowKit Utf V
theorem news5 (w:World)(x y z u v:Value)(e:TypeId)(H:Nat)(hH:w.heap.size=H):∀ j a,[x,y,z,u,v][j]? = some a→(w.alloc (.cells #[x,y,z,u,v] e)).cell? ((⟨H,0,none⟩:Addr).add j)=some a:=by
 subst hH;intro j a hv;have hj:j < 5:=(List.getElem?_eq_some_iff.1 hv).1;obtain rfl | rfl | rfl | rfl | rfl:j=0∨j=1∨j=2∨j=3∨j=4:=by omega
 all_goals rw[←hv];simp[Addr.add]
theorem VS.start {T:Nat}{W0 w1:World}{A A1:Option Addr}{l c k n c1:Nat}{t:ByteArray}{ks:List V}(hb:Below W0.heap.size W0 w1)(hown:w1.ownsRow W0.heap.size 44 4 (.slice A1 0 c1) 0 [])(hK:Kids false W0 (fun i=>i < W0.heap.size) ks A l c)(hk:k < 256)(hn:n < 18446744073709551616)
  (hT:itemsL ks≤T) (hT2:itemsL ks≤1073741824):VS T W0 (w1.alloc (.cells #[.slice A l c,.int .u8 k,.int .u64 n,.string t,.slice A1 0 c1] 196)) w1.heap.size 1 1 [] ⟨⟨A,l,c,ks⟩,k,n,t,⟨A1,0,c1,[]⟩⟩ (.mk k n t ks) (2 * itemsL ks+1):=by
 have hs:=hb.size;have hlt:=hown.lt;refine⟨rfl,?_,⟨fun r hr=>?_,List.pairwise_singleton _ _⟩,fun p hp=>?_,fun p hp=>(by cases hp),(by simp[goV]),(by simp[vweight]),hb.alloc hs _,by omega⟩
 ·have:=World.ownsRow_lit (e:=196) (size:=5) (base:=W0.heap.size) w1 #[.slice A l c,.int .u8 k,.int .u64 n,.string t,.slice A1 0 c1] 1 hs (by unfold maxLen;omega) rfl
  simpa [vflat,SE.val] using this
 ·simp at hr;subst hr;exact⟨[],hown.alloc _,rfl,fun e=>by have:=(hlt _ e).2;omega⟩
 ·simp at hp;subst hp;exact⟨hK.keep fun i hi=>(hb.alloc hs _).block i hi,hk,hn,by simpa using hT⟩
theorem grown_drew {w w':World}{r:Option Nat}(h:w.drew.grownBy w' r):w.grownBy w' r:=⟨h.os,h.tape,h.output,h.size,h.block⟩
theorem own_less {w:World}{base base':Nat}{e:TypeId}{size n:Nat}{v:Value}{xs:List Value}(h:w.ownsRow base e size v n xs)(hb:base'≤base):w.ownsRow base' e size v n xs:=by
 refine⟨h.1,?_⟩;rcases h.2 with hn | ⟨g,cap,cur,hv,hg,hrest⟩
 ·exact .inl hn
 ·exact .inr ⟨g,cap,cur,hv,Nat.le_trans hb hg,hrest⟩
theorem push_lands {B:Nat}{wr wy w1 w9:World}{G m c1 g9 c9:Nat}{o o':Obj}{A1:Option Addr}(hB:B≤wr.heap.size)(hG:G < wr.heap.size)(hGB:B≤G)(hsw:wr.heap.size=wy.heap.size)(hby:Below B wr wy)(hky:∀ i,i≠G→wy.heap[i]? = wr.heap[i]?)
  (hb1:Below (wy.alloc o).drew.heap.size (wy.alloc o).drew w1) (hown1:w1.ownsRow (wy.alloc o).drew.heap.size 44 4 (.slice A1 0 c9) 0 [])
  (hg:(w1.alloc o').grownBy w9 (Value.slice (some ⟨G,0,none⟩) m c1).ownBlock) (hat:(Value.slice (some ⟨G,0,none⟩) m c1).ownBlock=some g9∨w1.heap.size≤g9) :
  Below B wr w9∧(∀ i,B≤i→i < wr.heap.size→i≠G→w9.heap[i]? = wr.heap[i]?)∧(g9=G∨wr.heap.size≤g9)∧w9.ownsRow B 44 4 (.slice A1 0 c9) 0 []∧(∀ b,(Value.slice A1 0 c9).ownBlock=some b→wr.heap.size≤b)∧(Value.slice A1 0 c9).ownBlock≠some g9:=by
 have hX:(wy.alloc o).drew.heap.size=wy.heap.size+1:=by simp
 rw[hX] at hb1 hown1;have hs1:=hb1.size;rw[hX] at hs1;have hlt:=hown1.lt;have hold:∀ i,i < wr.heap.size→i≠G→w9.heap[i]? = wr.heap[i]?:=fun i hi hne=>by
  rw[hg.block i (by simp;omega) (fun e=>hne (by simpa [Value.ownBlock] using e)),Below.heap_alloc _ _ _ (by omega),hb1.block i (by omega)];exact(Below.heap_alloc wy o i (by omega)).trans (hky i hne)
 have h9:=hg.size;simp at h9;have hob:(Value.slice (some ⟨G,0,none⟩) m c1).ownBlock=some G:=rfl;refine⟨⟨?_,?_,?_,by omega,fun i hi=>hold i (by omega) (by omega)⟩,fun i _ hi hne=>hold i hi hne,?_,own_less ((hown1.alloc _).kept hg ?_) (by omega),fun b hb=>?_,fun e=>?_⟩
 ·exact hg.os.trans (hb1.os.trans hby.os)
 ·exact hg.tape.trans (hb1.tape.trans hby.tape)
 ·exact hg.output.trans (hb1.output.trans hby.output)
 ·rcases hat with h | h
  ·left;rw[hob] at h;injection h with h;exact h.symm
  ·right;omega
 ·cases hq:(Value.slice A1 0 c9).ownBlock with
  | none=>exact .inl rfl
  | some b=>
   refine .inr ?_;rw[hob];intro e;have:=(hlt b hq).1;injection e with e
   omega
 ·have:=(hlt b hb).1;omega
 ·have h1:=hlt g9 e;rcases hat with h | h
  ·rw[hob] at h;injection h with h;omega
  ·omega
def Q0 (k n:Nat)(t:ByteArray)(ks:List V):V:=.mk k n t ks
set_option maxRecDepth 100000 in
set_option maxHeartbeats 2000000 in
theorem foldV_any (k n:Nat)(t:ByteArray)(ks:List V)(A:Option Addr)(l c:Nat)(w:World)(hN:bulkL ks≤1073741824)(hk:k < 256)(hn:n < 18446744073709551616)(hK:Kd w ks A l c) :
  Calls Tryz.prog 160 #[.agg #[.int .u8 k,.int .u64 n,.string t,.slice A l c],.func (.func 159) #[] #[],.func (.func 161) #[] #[]] w (GivesN k n t ks w):=by
 have hil:=itemsL_le ks;have hlb:=length_bulk ks;have hl1:l≤ks.length:=Nat.le_of_eq hK.len;obtain⟨W0,hW0⟩:∃ W0,W0=(w.alloc (.cells #[.int .u8 k,.int .u64 n,.string t,.slice A l c] 44)).alloc (.cells #[.int .u8 0,.int .u64 0,.string ⟨#[]⟩,.slice none 0 0] 44):=⟨_,rfl⟩;have hb0:Box W0 w.heap.size (.int .u8 k) (.int .u64 n) (.string t) (.slice A l c):=by rw[hW0];exact(Box.new w _ _ _ _).alloc _
 have hb1:Box W0 (w.heap.size+1) (.int .u8 0) (.int .u64 0) (.string ⟨#[]⟩) (.slice none 0 0):=by rw[hW0];exact Box.new2 w _ _ _ _ _
 have hB0:Below w.heap.size w W0:=by rw[hW0];exact two_boxes w _ _
 have hS0:W0.heap.size=w.heap.size+2:=by rw[hW0];simp
 have hS0a:w.heap.size+2≤W0.heap.size:=Nat.le_of_eq hS0.symm;have HS0:=Lib.hid hS0;clear hS0;obtain⟨x0,x1,x2,x3,_⟩:=hb0.all;have hKW:Kids false W0 (fun i=>i < W0.heap.size) ks A l c:=(hK.call hB0);go_enter Tryz.func160,Tryz.ntmps160;go_upto_region 1 with fail
 rw[←hW0];have HW0:=Lib.hid hW0;clear hW0;go_cut [7] (fun s7 wx=>∃ G A1 c1,s7=.slice (some ⟨G,0,none⟩) 1 1∧VS (itemsL ks) W0 wx G 1 1 [] ⟨⟨A,l,c,ks⟩,k,n,t,⟨A1,0,c1,[]⟩⟩ (Q0 k n t ks) (2 * itemsL ks+1))
 case first=>
  go_region_with ((go_at_call 159;refine(copyA_any k n t A l c _ (by omega)).mono ?_;rintro e w1 ⟨A1,c1,rfl,hown1,hb1w⟩;have y3:=box_kept (wr:=W0.drew) x3 hb1w (by simp;omega)))
  all_goals
   have hv:VS (itemsL ks) W0 (w1.alloc (.cells #[.slice A l c,.int .u8 k,.int .u64 n,.string t,.slice A1 0 c1] 196)) w1.heap.size 1 1 [] ⟨⟨A,l,c,ks⟩,k,n,t,⟨A1,0,c1,[]⟩⟩ (Q0 k n t ks) (2 * itemsL ks+1):=
    VS.start ((Below.refl _ _).drew.trans hb1w) hown1 hKW hk hn (Nat.le_refl _) (by omega)
   go_wp2_with fail;go_meet;exact⟨_,A1,c1,rfl,by first | exact hv | exact hv.drew⟩
 case rest=>
  obtain⟨G0,A0,c0,rfl,hI0⟩:=hcut;clear x0 x1 x2 x3 hb0;go_wp2;go_loopg [7] (2 * itemsL ks+1) (fun g s wr=>∃ G1 n1 c1 rest z,s=.slice (some ⟨G1,0,none⟩) n1 c1∧VS (itemsL ks) W0 wr G1 n1 c1 rest z (Q0 k n t ks) g)
  case atStart=>exact⟨_,_,_,_,_,rfl,hI0⟩
  case round=>
   obtain⟨G,n1,c1,rest,z,rfl,hS⟩:=hrel;clear hI0;obtain⟨m,rfl⟩:∃ m,n1=m+1:=⟨n1 - 1,by have:=hS.len;omega⟩;have hlen:rest.length=m:=by have:=hS.len;omega
   obtain⟨hG1,hG2⟩:=hS.own.lt G (by simp[Value.ownBlock]);have hsm:=hS.small;have hgk:1≤gk:=by omega
   have own:=hS.own;have hfl:(vflat rest).length=m * 5:=by rw[vflat_len,hlen]
   rw[vflat_append,vflat_one] at own;have ct0:wr.cell? ⟨G,m * 5,none⟩=some z.x.val:=by rw[own.cellAt (m * 5) (by omega),List.getElem?_append_right (by omega),hfl];simp
   have ct1:wr.cell? ⟨G,m * 5+1,none⟩=some (.int .u8 (z.k:Int)):=by rw[own.cellAt (m * 5+1) (by omega),List.getElem?_append_right (by omega),hfl,show m * 5+1 - m * 5=1 by omega];rfl
   have ct2:wr.cell? ⟨G,m * 5+1+1,none⟩=some (.int .u64 (z.n:Int)):=by rw[own.cellAt (m * 5+1+1) (by omega),List.getElem?_append_right (by omega),hfl,show m * 5+1+1 - m * 5=2 by omega];rfl
   have ct3:wr.cell? ⟨G,m * 5+1+2,none⟩=some (.string z.t):=by rw[own.cellAt (m * 5+1+2) (by omega),List.getElem?_append_right (by omega),hfl,show m * 5+1+2 - m * 5=3 by omega];rfl
   have ct4:wr.cell? ⟨G,m * 5+1+3,none⟩=some (.slice z.r.A z.r.m z.r.c):=by rw[own.cellAt (m * 5+1+3) (by omega),List.getElem?_append_right (by omega),hfl,show m * 5+1+3 - m * 5=4 by omega];rfl
   have fz:∀ j,wr.frozen? ⟨G,j,none⟩=false:=own.frozenAt;have hcap:=own_cap own;obtain⟨hx,hzk,hzn,hzm⟩:=hS.ok z (by simp);obtain⟨⟨xA,xl,xc,xk⟩,zk,zn,zt,⟨zA,zm,zc,zd⟩⟩:=z;simp only[SE.val] at ct0 ct1 ct2 ct3 ct4 hx hzk hzn hzm own;have HL:=Lib.hid hlen;have HF:=Lib.hid hfl;clear hlen hfl;rcases Nat.eq_zero_or_pos xl with rfl | hxl
   ·rcases Nat.eq_zero_or_pos m with rfl | hm
    ·have hr:rest=[]:=List.eq_nil_of_length_eq_zero HL.out;subst hr;have hxk:xk=[]:=List.eq_nil_of_length_eq_zero hx.len.symm;subst hxk;have hq:=hS.hq;simp only[goV,List.foldr_nil,List.append_nil,Q0,V.mk.injEq] at hq;obtain⟨xs,hro,hrc,hrg⟩:=hS.rows.row ⟨zA,zm,zc,zd⟩ (by simp);have hCS:CS W0.heap.size wr zA zm zc zd xs:=⟨hro,hrc.mono fun i hi=>⟨hi.1,hi.2.1,hi.2.2.2 ⟨zA,zm,zc,zd⟩ (by simp)⟩⟩;have HN:=Lib.hid hCS.nw;have hb:=hS.below;have hbB:=hB0.trans (hb.mono (by omega));obtain⟨y0,y1,y2,y3,yf⟩:=(hb1.below hb (by omega)).all;have HQ:=Lib.hid hq;have HB:=Lib.hid hbB;clear hq hS own hro hrc hCS hb hbB;simp only[Nat.zero_mul,Nat.zero_add] at ct0 ct1 ct2 ct3 ct4;go_wp2;refine bodyPost_ret (v:=.agg #[.int .u8 zk,.int .u64 zn,.string zt,.slice zA zm zc]) (by simp[results,Tryz.results160,go_sem,y0,y1,y2,y3]) rfl ?_;obtain⟨rfl,rfl,rfl,rfl⟩:=HQ.out;exact⟨zA,zm,zc,rfl,(HN.out.far4 (g:=w.heap.size+1) (by omega) _ _ _ _).less (by omega),below_set4 HB.out (by omega) _ _ _ _⟩
    ·obtain⟨m',rfl⟩:∃ m',m=m'+1:=⟨m - 1,by omega⟩;obtain⟨rest0,a,rfl⟩:∃ rest0 a,rest=rest0++[a]:=by
      have hne:rest≠[]:=fun e=>by have:=HL.out;rw[e] at this;simp at this
      exact⟨rest.dropLast,rest.getLast hne,by have:=List.dropLast_concat_getLast hne;exact this.symm⟩
     have hl0:rest0.length=m':=by have:=HL.out;simp at this;omega
     have hfl0:(vflat rest0).length=m' * 5:=by rw[vflat_len,hl0]
     have hac:=hS.cnt a (by simp);obtain⟨xs,hro,hrc,hrg⟩:=hS.rows.row a.r (by simp);obtain⟨ax,ak,an,at_,⟨aA,am,ac,ad⟩⟩:=a;have hat:∀ j,wr.cell? ⟨G,m' * 5+j,none⟩=(vflat rest0++[ax.val,.int .u8 (ak:Int),.int .u64 (an:Int),.string at_,.slice aA am ac]++[.slice xA 0 xc,.int .u8 (zk:Int),.int .u64 (zn:Int),.string zt,.slice zA zm zc])[m' * 5+j]? ∨ 10≤j:=fun j=>by
      rcases Nat.lt_or_ge j 10 with hj | hj
      ·left;rw[own.cellAt (m' * 5+j) (by omega),vflat_append,vflat_one]
      ·exact .inr hj
     have hidx:∀ j,j < 5→wr.cell? ⟨G,m' * 5+j,none⟩=[ax.val,.int .u8 (ak:Int),.int .u64 (an:Int),.string at_,.slice aA am ac][j]?:=fun j hj=>by
      rcases hat j with h | h
      ·rw[h,List.append_assoc,List.getElem?_append_right (by omega),hfl0,show m' * 5+j - m' * 5=j by omega,List.getElem?_append_left (by simpa using hj)]
      ·omega
     have ca1:wr.cell? ⟨G,m' * 5+1,none⟩=some (.int .u8 (ak:Int)):=hidx 1 (by omega);have ca2:wr.cell? ⟨G,m' * 5+1+1,none⟩=some (.int .u64 (an:Int)):=hidx 2 (by omega);have ca3:wr.cell? ⟨G,m' * 5+1+2,none⟩=some (.string at_):=hidx 3 (by omega);have ca4:wr.cell? ⟨G,m' * 5+1+3,none⟩=some (.slice aA am ac):=hidx 4 (by omega);obtain⟨hq1,hq2⟩:=cut_top Tryz.underlying197 (show Tryz.prog.elem 197=196 by kernel_rfl) (show (Tryz.prog.info? 196).map (·.size)=some 5 by kernel_rfl) (some ⟨G,0,none⟩) (m'+1+1) c1 (m'+1) (by omega) hcap;have hs1':=fun W=>hq1 W ((m':Int)+1) (by simp);have hs2':=fun W=>hq2 W ((m':Int)+1) (by simp);have hwz:=hS.below.size;have ham:am≤1073741824:=by simp only at hac;omega
     have HRG:=Lib.hid hrg;have HS:=Lib.hid hS;have HRC:=Lib.hid hrc;have HL0:=Lib.hid hl0;have HRO:=Lib.hid hro;clear hq1 hq2 hl0 hfl0 hS own hat hidx hrc hrg hro;go_wp2_with fail;go_region_with ((go_at_call 161;refine(copyP_any ak an at_ aA am ac W0.heap.size xs zk zn zt zA zm zc wr.drew ham (by exact hwz) (by exact HRO.out)).mono ?_;rintro e w5 ⟨g9,cap9,rfl,hown9,hg9,hat9⟩;have hcG:∀ j,w5.cell? ⟨G,j,none⟩=wr.cell? ⟨G,j,none⟩:=(fun j=>hg9.cell_far ⟨G,j,none⟩ hG2 (fun e=>HRG.out e.symm));have hfG:∀ j,w5.frozen? ⟨G,j,none⟩=false:=(fun j=>(hg9.frozen_far ⟨G,j,none⟩ hG2 (fun e=>HRG.out e.symm)).trans (fz j))))
     all_goals
      go_wp2;go_roundg (gk - 1)
      case measure=>omega
      case rel=>exact⟨_,_,_,_,_,rfl,HS.out.pop HL0.out rfl HRC.out hown9 (grown_drew hg9) hat9⟩
   ·obtain⟨b,o,k1,n1,t1,ks1,B1,l1,d1,rfl,hb1x,hx1,h0,h1,h2,h3,hk1,hn1,hK1⟩:=Kids.at_ hx hxl;simp only[Nat.zero_mul,Nat.add_zero] at h0 h1 h2 h3;have hsz:=hS.below.size;have hbw:b < wr.heap.size:=Nat.lt_of_lt_of_le hb1x hsz;have hxI:(0:Int) < (xl:Int):=by omega
    have HX1:=Lib.hid hx1;have hks:itemsL ks1+1≤itemsL xk:=by
     have:=drop_at hx1;rw[List.drop_zero] at this;rw[this];simp only[itemsL,items];omega
    have hl1b:l1≤1073741824:=by have:=hK1.len;have:=length_le ks1;omega
    obtain⟨C1,e1,he1,hsx1,hsx2,hsx3⟩:=cut_vals (some ⟨b,o,none⟩) xl xc 1 (by omega) hx.cap;have sx1:=fun W=>hsx1 W 1 rfl;have sx2:=fun W=>hsx2 W 1 rfl;clear hsx1 hsx2 hx1 hN ct1 ct2 ct3 ct4;obtain⟨xt,hxt⟩:∃ xt,xk.drop 1=xt:=⟨_,rfl⟩;have HXT:=Lib.hid hxt;clear hxt;obtain⟨wy,hwy⟩:∃ wy,wy=wr.setCell ⟨G,m * 5,none⟩ (.slice C1 (xl - 1) e1):=⟨_,rfl⟩;have hby:Below W0.heap.size wr wy:=by rw[hwy];exact(Below.refl _ _).setCell (p:=⟨G,m * 5,none⟩) hG1 _
    have hky:∀ i,i≠G→wy.heap[i]? = wr.heap[i]?:=fun i hi=>by rw[hwy];exact Below.heap_setCell _ _ _ _ hi
    have hown5:wy.ownsRow W0.heap.size 196 5 (.slice (some ⟨G,0,none⟩) (m+1) c1) (m+1) (vflat rest++[.slice C1 (xl - 1) e1,.int .u8 (zk:Int),.int .u64 (zn:Int),.string zt,.slice zA zm zc]):=by
     have:=(hS.own.stored (m * 5) (.slice C1 (xl - 1) e1)).1;rw[vset0 rest _ m HL.out] at this;rw[hwy];exact this
    have hsw:wr.heap.size=wy.heap.size:=by rw[hwy];simp
    have hszy:W0.heap.size≤wy.heap.size:=by omega
    have hGy:G < wy.heap.size:=by omega
    have hm4:m+1≤4294967296:=by omega
    obtain⟨i0,hi,hz0,hz1,hz2⟩:=info_parts infoStepV;have HKY:=Lib.hid hky;have hkb:=Box.new wy (.int .u8 k1) (.int .u64 n1) (.string t1) (.slice B1 l1 d1);obtain⟨q0,q1,q2,q3,_⟩:=hkb.all;have hby2:=hby.alloc hszy (.cells #[.int .u8 k1,.int .u64 n1,.string t1,.slice B1 l1 d1] 44);have hown6:=hown5.alloc (.cells #[.int .u8 k1,.int .u64 n1,.string t1,.slice B1 l1 d1] 44);have HSW:=Lib.hid hsw;clear hky own hkb hsw;go_upto_region 7 with fail
    rw[←hwy,HSW.out];have HWY:=Lib.hid hwy;clear hwy;go_cut [7] (fun s7 wx=>∃ g9 cap9 A9 c9,s7=.slice (some ⟨g9,0,none⟩) (m+1+1) cap9∧wx.ownsRow W0.heap.size 196 5 (.slice (some ⟨g9,0,none⟩) (m+1+1) cap9) (m+1+1) (vflat rest++[.slice C1 (xl - 1) e1,.int .u8 (zk:Int),.int .u64 (zn:Int),.string zt,.slice zA zm zc]++[.slice B1 l1 d1,.int .u8 (k1:Int),.int .u64 (n1:Int),.string t1,.slice A9 0 c9])∧Below W0.heap.size wr wx∧(∀ i,W0.heap.size≤i→i < wr.heap.size→i≠G→wx.heap[i]? = wr.heap[i]?)∧(g9=G∨wr.heap.size≤g9)∧wx.ownsRow W0.heap.size 44 4 (.slice A9 0 c9) 0 []∧(∀ b,(Value.slice A9 0 c9).ownBlock=some b→wr.heap.size≤b)∧(Value.slice A9 0 c9).ownBlock≠some g9)
    case first=>
     go_region_law (first
      | (refine step_append_lies _ rfl _ _ 197 rfl W0.heap.size 196 i0 _ 5 80 Tryz.underlying197 hi hz0 hz1 hz2 rfl (by omega) _ _ _ rfl (by exact(hown7.alloc _)) ⟨w1.heap.size,0,none⟩ 1 1 [.slice B1 l1 d1,.int .u8 k1,.int .u64 n1,.string t1,.slice A1 0 c9] rfl rfl (by exact news5 _ _ _ _ _ _ _ _ (by simp)) (fun u hu=>(by simp at hu;rcases hu with rfl | rfl | rfl | rfl | rfl<;>rfl)) (by omega) (by unfold maxLen;omega) (by omega) (by simp;omega) _ rfl ?_;intro g9 cap9 w9 hown9 hgrow9 hat9 _)
      | (go_simp;go_at_call 159;refine(copyA_any k1 n1 t1 B1 l1 d1 (wy.alloc (.cells #[.int .u8 k1,.int .u64 n1,.string t1,.slice B1 l1 d1] 44)).drew hl1b).mono ?_;rintro e w1 ⟨A1,c9,rfl,hown1,hb1w⟩;have y3:=box_kept (wr:=(wy.alloc (.cells #[.int .u8 k1,.int .u64 n1,.string t1,.slice B1 l1 d1] 44)).drew) q3 hb1w (by simp);have hown7:=((show (wy.alloc (.cells #[.int .u8 k1,.int .u64 n1,.string t1,.slice B1 l1 d1] 44)).drew.ownsRow W0.heap.size 196 5 (.slice (some ⟨G,0,none⟩) (m+1) c1) (m+1) (vflat rest++[.slice C1 (xl - 1) e1,.int .u8 (zk:Int),.int .u64 (zn:Int),.string zt,.slice zA zm zc]) from hown6)).kept (grown_of_below hb1w) (.inr (by simp[Value.ownBlock]));have hs1w:=hb1w.size;simp at hs1w))
     all_goals
      have hat8:(Value.slice (some ⟨G,0,none⟩) (m+1) c1).ownBlock=some g9∨w1.heap.size≤g9:=by
       rcases hat9 with h | h
       ·exact .inl h
       ·right;simp at h;omega
      have hl:=push_lands hsz hG2 hG1 HSW.out hby HKY.out hb1w hown1 (by first | exact hgrow9 | exact grown_drew hgrow9) hat8;go_wp2_with fail;go_meet;exact⟨g9,cap9,A1,c9,rfl,hown9,hl⟩
    case rest=>
     obtain⟨g9,cap9,A9,c9,rfl,hown9,hb9,hk9,hG9,hrow9,hnew9,hne9⟩:=hcut;have hpush:=hS.push (x2:=⟨C1,xl - 1,e1,xt⟩) (y:=⟨B1,l1,d1,ks1⟩) hk1 hn1 ((HXT.out▸hsx3 _ _ _ _ hx:Kids false wr (fun i=>i < W0.heap.size) xt C1 (xl - 1) e1).keep fun i hi=>hb9.block i hi) (hK1.keep fun i hi=>hb9.block i hi) (by have:=drop_at HX1.out;rw[List.drop_zero,HXT.out] at this;exact this) hown9 hb9 hk9 hG9 hrow9 hnew9 hne9;clear hS hown5 hown6 hown9 hb9 hby hby2 hk9 hrow9 hnew9 hne9 hG9;go_wp2;go_roundg (gk - 1)
     case measure=>omega
     case rel=>exact⟨_,_,_,_,_,rfl,hpush⟩
end Go.Proofs.YtcilmmdmkpnppaaGreatDoor.Val
end
section
namespace Go.Proofs.YtcilmmdmkpnppaaGreatDoor.Val
set_option maxRecDepth 100000
open Go.RowKit Utf V
theorem vcopy_any (k n:Nat)(t:ByteArray)(ks:List V)(A:Option Addr)(l c:Nat)(w:World)(hN:bulkL ks≤1073741824)(hk:k < 256)(hn:n < 18446744073709551616)(hK:Kd w ks A l c) :
  Calls Tryz.prog 122 #[.agg #[.int .u8 k,.int .u64 n,.string t,.slice A l c]] w (GivesN k n t ks w):=by
 have hb1:=Box.new2 w (.cells #[.int .u8 k,.int .u64 n,.string t,.slice A l c] 44) (.int .u8 0) (.int .u64 0) (.string ⟨#[]⟩) (.slice none 0 0);have hB:=two_boxes w (.cells #[.int .u8 k,.int .u64 n,.string t,.slice A l c] 44) (.cells #[.int .u8 0,.int .u64 0,.string ⟨#[]⟩,.slice none 0 0] 44);have HN:=Lib.hid hn;clear hn;go_enter Tryz.func122,Tryz.ntmps122;go_wp2_with fail;refine(foldV_any k n t ks A l c _ hN hk HN.out ((hK.alloc _).alloc _)).mono ?_;rintro e w1 ⟨A1,l1,c1,rfl,hNw,hb⟩;obtain⟨d0,d1,d2,d3,df⟩:=(hb1.call hb).all;have hB2:=below_next hB hb;simp only[World.size_alloc] at hNw;have HW:=Lib.hid hNw;clear hNw;go_wp2;refine bodyPost_ret (v:=.agg #[.int .u8 k,.int .u64 n,.string t,.slice A1 l1 c1]) (by simp[results,Tryz.results122,go_sem,d0,d1,d2,d3]) rfl ?_;exact⟨A1,l1,c1,rfl,(HW.out.far4 (g:=w.heap.size+1) (by omega) _ _ _ _).less (by omega),below_set4 hB2 (by omega) _ _ _ _⟩
theorem vmany_any (k:Nat)(ks:List V)(A:Option Addr)(l c:Nat)(w:World)(hN:bulkL ks≤1073741824)(hk:k < 256)(hK:Kd w ks A l c) :
  Calls Tryz.prog 78 #[.int .u8 k,.slice A l c] w (GivesN k 0 ⟨#[]⟩ ks w):=by
 have hb1:=Box.new w (.int .u8 0) (.int .u64 0) (.string ⟨#[]⟩) (.slice none 0 0);have hB:Below w.heap.size w (w.alloc (.cells #[.int .u8 0,.int .u64 0,.string ⟨#[]⟩,.slice none 0 0] 44)):=(Below.refl _ _).alloc (Nat.le_refl _) _;go_enter Tryz.func78,Tryz.ntmps78;go_wp2_with fail;refine(vcopy_any k 0 ⟨#[]⟩ ks A l c _ hN hk (by omega) (hK.alloc _)).mono ?_;rintro e w1 ⟨A1,l1,c1,rfl,hNw,hb⟩;obtain⟨d0,d1,d2,d3,df⟩:=(hb1.call hb).all;have hB2:=below_next hB hb;simp only[World.size_alloc] at hNw;have HW:=Lib.hid hNw;clear hNw;go_wp2;refine bodyPost_ret (v:=.agg #[.int .u8 k,.int .u64 0,.string ⟨#[]⟩,.slice A1 l1 c1]) (by simp[results,Tryz.results78,go_sem,d0,d1,d2,d3]) rfl ?_;exact⟨A1,l1,c1,rfl,(HW.out.far4 (g:=w.heap.size) (by omega) _ _ _ _).less (by omega),below_set4 hB2 (by omega) _ _ _ _⟩
theorem kids_two {w:World}{k n k' n':Nat}{t t':ByteArray}{ks ks':List V}{A A':Option Addr}{l c l' c':Nat}(hk:k < 256)(hn:n < 18446744073709551616)(hk':k' < 256)(hn':n' < 18446744073709551616)(hK:Kd w ks A l c)(hK':Kd w ks' A' l' c') :
  Kd (w.alloc (.cells #[.int .u8 k,.int .u64 n,.string t,.slice A l c,.int .u8 k',.int .u64 n',.string t',.slice A' l' c'] 44)) [.mk k n t ks,.mk k' n' t' ks'] (some ⟨w.heap.size,0,none⟩) 2 2:=by
 refine⟨rfl,Nat.le_refl _,fun _=>⟨w.heap.size,0,rfl,by simp,fun h=>(by cases h),?_⟩⟩;refine⟨repV_iff.2 ⟨A,l,c,by simp,by simp,by simp,by simp,hk,hn,hK.alloc _⟩,repV_iff.2 ⟨A',l',c',by simp,by simp,by simp,by simp,hk',hn',hK'.alloc _⟩,trivial⟩
theorem vdesc_any (k n:Nat)(t:ByteArray)(ks:List V)(A:Option Addr)(l c:Nat)(k' n':Nat)(t':ByteArray)(ks':List V)(A':Option Addr)(l' c':Nat)(w:World)(hN:bulkL [.mk k n t ks,.mk k' n' t' ks']≤1073741824)(hk:k < 256)(hn:n < 18446744073709551616)(hk':k' < 256)(hn':n' < 18446744073709551616)(hK:Kd w ks A l c)(hK':Kd w ks' A' l' c') :
  Calls Tryz.prog 46 #[.agg #[.int .u8 k,.int .u64 n,.string t,.slice A l c],.agg #[.int .u8 k',.int .u64 n',.string t',.slice A' l' c']] w (GivesN 25 0 ⟨#[]⟩ [.mk k n t ks,.mk k' n' t' ks'] w):=by
 have hb1:=(Box.new2 (w.alloc (.cells #[.int .u8 k,.int .u64 n,.string t,.slice A l c] 44)) (.cells #[.int .u8 k',.int .u64 n',.string t',.slice A' l' c'] 44) (.int .u8 0) (.int .u64 0) (.string ⟨#[]⟩) (.slice none 0 0)).alloc (.cells #[.int .u8 k,.int .u64 n,.string t,.slice A l c,.int .u8 k',.int .u64 n',.string t',.slice A' l' c'] 44);have hB:=((two_boxes w (.cells #[.int .u8 k,.int .u64 n,.string t,.slice A l c] 44) (.cells #[.int .u8 k',.int .u64 n',.string t',.slice A' l' c'] 44)).alloc (by simp;omega) (.cells #[.int .u8 0,.int .u64 0,.string ⟨#[]⟩,.slice none 0 0] 44)).alloc (by simp;omega) (.cells #[.int .u8 k,.int .u64 n,.string t,.slice A l c,.int .u8 k',.int .u64 n',.string t',.slice A' l' c'] 44);simp only[World.size_alloc] at hb1;have hK2:=kids_two (t:=t) (t':=t') hk hn hk' hn' (((hK.alloc (.cells #[.int .u8 k,.int .u64 n,.string t,.slice A l c] 44)).alloc (.cells #[.int .u8 k',.int .u64 n',.string t',.slice A' l' c'] 44)).alloc (.cells #[.int .u8 0,.int .u64 0,.string ⟨#[]⟩,.slice none 0 0] 44)) (((hK'.alloc (.cells #[.int .u8 k,.int .u64 n,.string t,.slice A l c] 44)).alloc (.cells #[.int .u8 k',.int .u64 n',.string t',.slice A' l' c'] 44)).alloc (.cells #[.int .u8 0,.int .u64 0,.string ⟨#[]⟩,.slice none 0 0] 44));simp only[World.size_alloc] at hK2;have HK:=Lib.hid hK2;clear hK2 hn hn';go_enter Tryz.func46,Tryz.ntmps46;go_wp2_with fail;refine(vmany_any 25 _ _ 2 2 _ hN (by omega) HK.out).mono ?_;rintro e w1 ⟨A1,l1,c1,rfl,hNw,hb⟩;obtain⟨d0,d1,d2,d3,df⟩:=(hb1.call hb).all;have hB2:=below_next hB hb;simp only[World.size_alloc] at hNw;have HW:=Lib.hid hNw;clear hNw;go_wp2;refine bodyPost_ret (v:=.agg #[.int .u8 25,.int .u64 0,.string ⟨#[]⟩,.slice A1 l1 c1]) (by simp[results,Tryz.results46,go_sem,d0,d1,d2,d3]) rfl ?_;exact⟨A1,l1,c1,rfl,(HW.out.far4 (g:=w.heap.size+1+1) (by omega) _ _ _ _).less (by omega),below_set4 hB2 (by omega) _ _ _ _⟩
end Go.Proofs.YtcilmmdmkpnppaaGreatDoor.Val
end
