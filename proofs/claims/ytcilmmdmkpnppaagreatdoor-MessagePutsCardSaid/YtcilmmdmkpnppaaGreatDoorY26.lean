/-
  Contracts of functions and plain mathematics, text by text, each with its conditions ahead of it:
  Contract of the document's Desc: a value that is called something, in new memory. Memory that was there stays. Condition: values of bulk at most 2^30.
  Contract of the document's Put. Memory that was there stays. Conditions: values of bulk at most 2^29.
  Contract of the document's num (layer 10). Memory that was there stays.
  Contracts of the document's Lay and LayPiece behind nothing: new memory that holds the number's bytes; a piece behind its length. Conditions: at most 8 bytes; a piece whose length fits its width.
-/
import Derived.Test.YtcilmmdmkpnppaaGreatDoorY01
import Derived.Test.YtcilmmdmkpnppaaGreatDoorY02
import Derived.Test.YtcilmmdmkpnppaaGreatDoorY06
import Derived.Test.YtcilmmdmkpnppaaGreatDoorY16
import Derived.Deep.RegionWith
section
namespace Go.Proofs.YtcilmmdmkpnppaaGreatDoor.Val
set_option maxRecDepth 100000
open Go.RowKit Utf V
theorem news_two {w:World}{B:Nat}{k n k' n':Nat}{t t':ByteArray}{ks ks':List V}{A A':Option Addr}{l c l' c':Nat}(hB:B≤w.heap.size)(hk:k < 256)(hn:n < 18446744073709551616)(hk':k' < 256)(hn':n' < 18446744073709551616)(hK:Nw B w ks A l c)(hK':Nw B w ks' A' l' c') :
  Nw B (w.alloc (.cells #[.int .u8 k,.int .u64 n,.string t,.slice A l c,.int .u8 k',.int .u64 n',.string t',.slice A' l' c'] 44)) [.mk k n t ks,.mk k' n' t' ks'] (some ⟨w.heap.size,0,none⟩) 2 2:=by
 have hb:Below w.heap.size w (w.alloc (.cells #[.int .u8 k,.int .u64 n,.string t,.slice A l c,.int .u8 k',.int .u64 n',.string t',.slice A' l' c'] 44)):=(Below.refl _ _).alloc (Nat.le_refl _) _;refine⟨rfl,Nat.le_refl _,fun _=>⟨w.heap.size,0,rfl,⟨hB,by simp⟩,fun _=>⟨_,heap_alloc_new w _⟩,?_⟩⟩;exact⟨repV_iff.2 ⟨A,l,c,by simp,by simp,by simp,by simp,hk,hn,hK.call hb⟩,repV_iff.2 ⟨A',l',c',by simp,by simp,by simp,by simp,hk',hn',hK'.call hb⟩,trivial⟩
set_option maxRecDepth 100000 in
set_option maxHeartbeats 1000000 in
theorem xdesc_any (k n:Nat)(t:ByteArray)(ks:List V)(A:Option Addr)(l c:Nat)(k' n':Nat)(t':ByteArray)(ks':List V)(A':Option Addr)(l' c':Nat)(w:World)(hN:bulkL ks≤1073741824)(hN':bulkL ks'≤1073741824)(hk:k < 256)(hn:n < 18446744073709551616)(hk':k' < 256)(hn':n' < 18446744073709551616)(hK:Kd w ks A l c)(hK':Kd w ks' A' l' c') :
  Calls Tryz.prog 32 #[.agg #[.int .u8 k,.int .u64 n,.string t,.slice A l c],.agg #[.int .u8 k',.int .u64 n',.string t',.slice A' l' c']] w (GivesN 25 0 ⟨#[]⟩ [.mk k n t ks,.mk k' n' t' ks'] w):=by
 have b0:=((Box.new w (.int .u8 k) (.int .u64 n) (.string t) (.slice A l c)).alloc (.cells #[.int .u8 k',.int .u64 n',.string t',.slice A' l' c'] 44)).alloc (.cells #[.int .u8 0,.int .u64 0,.string ⟨#[]⟩,.slice none 0 0] 44);have b1:=(Box.new2 w (.cells #[.int .u8 k,.int .u64 n,.string t,.slice A l c] 44) (.int .u8 k') (.int .u64 n') (.string t') (.slice A' l' c')).alloc (.cells #[.int .u8 0,.int .u64 0,.string ⟨#[]⟩,.slice none 0 0] 44);have b2:=(Box.new ((w.alloc (.cells #[.int .u8 k,.int .u64 n,.string t,.slice A l c] 44)).alloc (.cells #[.int .u8 k',.int .u64 n',.string t',.slice A' l' c'] 44)) (.int .u8 0) (.int .u64 0) (.string ⟨#[]⟩) (.slice none 0 0));have bb:Below w.heap.size w (((w.alloc (.cells #[.int .u8 k,.int .u64 n,.string t,.slice A l c] 44)).alloc (.cells #[.int .u8 k',.int .u64 n',.string t',.slice A' l' c'] 44)).alloc (.cells #[.int .u8 0,.int .u64 0,.string ⟨#[]⟩,.slice none 0 0] 44)):=
  (two_boxes w _ _).alloc (by simp;omega) _
 have hKW:=((hK.alloc (.cells #[.int .u8 k,.int .u64 n,.string t,.slice A l c] 44)).alloc (.cells #[.int .u8 k',.int .u64 n',.string t',.slice A' l' c'] 44)).alloc (.cells #[.int .u8 0,.int .u64 0,.string ⟨#[]⟩,.slice none 0 0] 44);have hKW':=((hK'.alloc (.cells #[.int .u8 k,.int .u64 n,.string t,.slice A l c] 44)).alloc (.cells #[.int .u8 k',.int .u64 n',.string t',.slice A' l' c'] 44)).alloc (.cells #[.int .u8 0,.int .u64 0,.string ⟨#[]⟩,.slice none 0 0] 44);simp only[World.size_alloc] at b2;have hsz:(((w.alloc (.cells #[.int .u8 k,.int .u64 n,.string t,.slice A l c] 44)).alloc (.cells #[.int .u8 k',.int .u64 n',.string t',.slice A' l' c'] 44)).alloc (.cells #[.int .u8 0,.int .u64 0,.string ⟨#[]⟩,.slice none 0 0] 44)).heap.size=w.heap.size+3:=by simp
 obtain⟨W0,hW0⟩:∃ W0,(((w.alloc (.cells #[.int .u8 k,.int .u64 n,.string t,.slice A l c] 44)).alloc (.cells #[.int .u8 k',.int .u64 n',.string t',.slice A' l' c'] 44)).alloc (.cells #[.int .u8 0,.int .u64 0,.string ⟨#[]⟩,.slice none 0 0] 44))=W0:=⟨_,rfl⟩;rw[hW0] at b0 b1 b2 bb hKW hKW' hsz;obtain⟨p0,p1,p2,p3,pf⟩:=b0.all;obtain⟨q0,q1,q2,q3,qf⟩:=b1.all;have HN:=Lib.hid hN;have HN':=Lib.hid hN';have HKW:=Lib.hid hKW.drew;have HKW':=Lib.hid hKW'.drew;clear hN hN' hK hK' hKW hKW';go_enter Tryz.func32,Tryz.ntmps32;go_upto_region 1 with fail
 clear hW0;have hdr:W0.drew.heap.size=W0.heap.size:=rfl;go_region_with (first
  | (go_at_call 59;refine(xcopy_any k n t ks A l c W0.drew (by exact HN.out) (by exact HKW.out)).mono ?_;rintro e w1 ⟨A1,l1,c1,rfl,hNw1,hb1⟩;have y0:=box_kept (wr:=W0.drew) q0 hb1 (by omega);have y1:=box_kept (wr:=W0.drew) q1 hb1 (by omega);have y2:=box_kept (wr:=W0.drew) q2 hb1 (by omega);have y3:=box_kept (wr:=W0.drew) q3 hb1 (by omega))
  | (go_at_call 59;refine(xcopy_any k' n' t' ks' A' l' c' w1 (by exact HN'.out) (by exact HKW'.out.call hb1)).mono ?_;rintro e w2 ⟨A2,l2,c2,rfl,hNw2,hb2⟩;have hbd:=below_next (w:=W0) ((Below.refl _ W0).drew) hb1;have hbe:=below_next hbd hb2;have B2:=(b2.call hbe).alloc (.cells #[.int .u8 k,.int .u64 n,.string t,.slice A1 l1 c1,.int .u8 k',.int .u64 n',.string t',.slice A2 l2 c2] 44);have B2s:=B2.all;obtain⟨d0,d1,d2,d3,df⟩:=B2s))
 all_goals
  have hs1:=hbd.size;have hs2:=hbe.size;have HNW:=Lib.hid (news_two (B:=W0.heap.size) (by omega) hk hn hk' hn' (t:=t) (t':=t') ((hNw1.less (Nat.le_of_eq hdr.symm)).call hb2) (hNw2.less hs1));have HBE:=Lib.hid (below_next bb hbe);clear hNw1 hNw2;go_wp2_with fail;obtain⟨f0,f1,f2,f3,ff⟩:=(B2.set4 (.int .u8 25) (.int .u64 0) (.string ⟨#[]⟩) (.slice (some ⟨w2.heap.size,0,none⟩) 2 2)).all;refine bodyPost_ret (v:=.agg #[.int .u8 25,.int .u64 0,.string ⟨#[]⟩,.slice (some ⟨w2.heap.size,0,none⟩) 2 2]) (by simp[results,Tryz.results32,go_sem,f0,f1,f2,f3]) rfl ?_;exact⟨some ⟨w2.heap.size,0,none⟩,2,2,rfl,(HNW.out.far4 (g:=w.heap.size+1+1) (by omega) _ _ _ _).less (by omega),below_set4 (HBE.out.alloc (by omega) _) (by omega) _ _ _ _⟩
end Go.Proofs.YtcilmmdmkpnppaaGreatDoor.Val
end
section
namespace Go.Proofs.YtcilmmdmkpnppaaGreatDoor.Fl
set_option maxRecDepth 100000
open Go.RowKit Utf Val V
theorem xnum6 (code:Nat)(w:World):Calls Tryz.prog 33 #[.int .u8 6,.int .u64 (code:Int)] w fun e w'=>e=.returned (.agg #[.int .u8 6,.int .u64 (code:Int),.string ⟨#[]⟩,.slice none 0 0])∧Below w.heap.size w w':=by
 go_enter Tryz.func33,Tryz.ntmps33;go_wp2;exact bodyPost_ret (v:=.agg #[.int .u8 6,.int .u64 (code:Int),.string ⟨#[]⟩,.slice none 0 0]) (by simp[results,Tryz.results33,go_sem]) rfl ⟨rfl,(Below.refl _ _).alloc (Nat.le_refl _) _⟩
def GivesM (ks:List V)(w:World)(e:Ending)(w':World):Prop:=∃ A l c,e=.returned (.agg #[.int .u8 22,.int .u64 0,.string ⟨#[]⟩,.slice A l c])∧Nw w.heap.size w' ks A l c∧Below w.heap.size w w'
theorem xmany22 (ks:List V)(A:Option Addr)(l c:Nat)(w:World)(hN:bulkL ks≤1073741824)(hK:Kd w ks A l c):Calls Tryz.prog 58 #[.int .u8 22,.slice A l c] w (GivesM ks w):=xmany_any 22 ks A l c w hN hK
theorem xdesc_put (code:Nat)(ks:List V)(A:Option Addr)(l c:Nat)(w:World)(hN:bulkL ks≤536870912)(hcode:code < 18446744073709551616)(hK:Kd w ks A l c) :
  Calls Tryz.prog 32 #[.agg #[.int .u8 6,.int .u64 (code:Int),.string ⟨#[]⟩,.slice none 0 0],.agg #[.int .u8 22,.int .u64 0,.string ⟨#[]⟩,.slice A l c]] w (GivesU code ks w):=
 xdesc_any 6 code ⟨#[]⟩ [] none 0 0 22 0 ⟨#[]⟩ ks A l c w (by simp[bulkL]) (by omega) (by omega) hcode (by omega) (by omega) (Kd.none_ _ _ _) hK
set_option maxHeartbeats 2000000 in
theorem xput_any (code:Nat)(ls:List V)(A:Option Addr)(l c:Nat)(w:World)(hN:bulkL ls≤536870912)(hcode:code < 18446744073709551616)(hK:Kd w ls A l c) :
  Calls Tryz.prog 29 #[.int .u64 (code:Int),.slice A l c] w (GivesU code (trim ls) w):=by
 have hx:=Box.new w (.int .u8 0) (.int .u64 0) (.string ⟨#[]⟩) (.slice none 0 0);have hb0:Below w.heap.size w (w.alloc (.cells #[.int .u8 0,.int .u64 0,.string ⟨#[]⟩,.slice none 0 0] 44)):=(Below.refl _ _).alloc (Nat.le_refl _) _;have HT:=Lib.hid (show trim ls=ls.take (cutN ls l) by unfold trim;rw[hK.len]);have HCUT:=Lib.hid (fun(j:Nat) (h1:j≤l)=>(cut_top (T:=42) (e:=44) (size:=4) Tryz.underlying42 rfl rfl A l c j h1 hK.cap));have hlb:=length_bulk ls;have hlen:=hK.len;have HL:=Lib.hid (show l≤536870912 by omega);have HN:=Lib.hid hN;have HC:=Lib.hid hcode;have HK:=Lib.hid (hK.call hb0);have HX:=Lib.hid hx;have HB:=Lib.hid hb0;clear hN hcode hK hx hb0 hlb hlen;go_enter Tryz.func29,Tryz.ntmps29;go_wp2;obtain⟨W,hW⟩:∃ W,w.alloc (.cells #[.int .u8 0,.int .u64 0,.string ⟨#[]⟩,.slice none 0 0] 44)=W:=⟨_,rfl⟩;have HWK:Hid (Kd W ls A l c):=Lib.hid (hW▸HK.out);have HWB:Hid (Below w.heap.size w W):=Lib.hid (hW▸HB.out);have HWX:Hid (Box W w.heap.size (.int .u8 0) (.int .u64 0) (.string ⟨#[]⟩) (.slice none 0 0)):=Lib.hid (hW▸HX.out);clear HK HB HX;rw[hW];clear hW;go_loopw [5] (fun s wr=>∃ j:Nat,j≤l∧s=.int .i64 j∧cutN ls j=cutN ls l∧W=wr) (fun s _=>(intOf s).toNat)
 case atStart=>exact⟨l,Nat.le_refl _,rfl,rfl,rfl⟩
 case round=>
  obtain⟨j,hj,rfl,hq,rfl⟩:=hrel;have HQ:=Lib.hid hq;have hL:=HL.out;have hDR:W.drew.heap.size=W.heap.size:=rfl;cases j with
  | zero=>
   clear hq;have HKJ:=Lib.hid (show Kd W.drew (ls.take 0) A 0 c from (kids_take (Kd.drew HWK.out) hj));have HE:Hid (ls.take 0=trim ls):=Lib.hid (by rw[HT.out,←HQ.out];rfl);have hct:=(HCUT.out 0 hj).1;have hct2:=(HCUT.out 0 hj).2;go_upto_region 4 with fail
   go_region_with (first
    | (go_at_call 33;refine(xnum6 code _).mono ?_;rintro e w2 ⟨rfl,hb2⟩;have HB2:=Lib.hid (show Below W.heap.size W w2 from below_next ((Below.refl _ W).drew) hb2))
    | (go_at_call 58;refine(xmany22 (ls.take (0)) A (0) c w2 (by have:=HN.out;have:=bulk_take ls (0);omega) (Kd.call (by exact HKJ.out) (by exact hb2))).mono ?_;rintro e w3 ⟨A3,l3,c3,rfl,hN3,hb3⟩;have HN3:=Lib.hid hN3)
    | (go_at_call 32;refine(xdesc_put code (ls.take (0)) A3 l3 c3 w3 (by have:=HN.out;have:=bulk_take ls (0);omega) HC.out (by exact HN3.out.kd)).mono ?_;rintro e w4 ⟨A4,l4,c4,rfl,hN4,hb4⟩;have HB4:=Lib.hid (below_next (below_next HB2.out hb3) hb4);have HS3:=Lib.hid (Nat.le_trans HB2.out.size hb3.size);have HN4:=Lib.hid hN4;obtain⟨d0,d1,d2,d3,df⟩:=(HWX.out.call HB4.out).all)
    | fail)
   all_goals
    go_wp2_with fail;refine bodyPost_ret (v:=.agg #[.int .u8 25,.int .u64 0,.string ⟨#[]⟩,.slice A4 l4 c4]) (by simp[results,Tryz.results29,go_sem,d0,d1,d2,d3]) rfl ?_;have hs1:=HWX.out.lt;have hs3:=HS3.out;have hsB:=HWB.out.size;exact⟨A4,l4,c4,rfl,by rw[←HE.out];exact(HN4.out.far4 (by omega) _ _ _ _).less (by omega),below_set4 (HWB.out.trans (HB4.out.mono hsB)) (by omega) _ _ _ _⟩
  | succ i=>
   obtain⟨bb,oo,k',n',t',ks',A',l',c',hAA,hb',hx,h0,h1,h2,h3,hk',hn',hK'⟩:=HWK.out.at_ (i:=i) (by omega);subst hAA;have HX:=Lib.hid hx;by_cases hk1:k'=1
   ·have hd:((k':Int)==1)=true:=by rw[hk1];rfl
    have HE:Hid (cutN ls i=cutN ls l):=Lib.hid (by rw[←HQ.out,cutN_null HX.out hk1]);clear hq hx hk1 hK' hk' hn';go_wp2;go_roundw
    case rel=>exact⟨i,by omega,rfl,HE.out,by trivial⟩
    case measure=>simp[intOf]
   ·have hd:((k':Int)==1)=false:=by simp;omega
    have HE:Hid (ls.take (i+1)=trim ls):=Lib.hid (by rw[HT.out,←HQ.out,cutN_some HX.out hk1]);have HKJ:=Lib.hid (show Kd W.drew (ls.take (i+1)) (some ⟨bb,oo,none⟩) (i+1) c from (kids_take (Kd.drew HWK.out) hj));have hct:=(HCUT.out (i+1) hj).1;have hct2:=(HCUT.out (i+1) hj).2;clear hq hx hk1 hK' hk' hn';go_upto_region 4 with fail
    go_region_with (first
     | (go_at_call 33;refine(xnum6 code _).mono ?_;rintro e w2 ⟨rfl,hb2⟩;have HB2:=Lib.hid (show Below W.heap.size W w2 from below_next ((Below.refl _ W).drew) hb2))
     | (go_at_call 58;refine(xmany22 (ls.take (i+1)) (some ⟨bb,oo,none⟩) (i+1) c w2 (by have:=HN.out;have:=bulk_take ls (i+1);omega) (Kd.call (by exact HKJ.out) (by exact hb2))).mono ?_;rintro e w3 ⟨A3,l3,c3,rfl,hN3,hb3⟩;have HN3:=Lib.hid hN3)
     | (go_at_call 32;refine(xdesc_put code (ls.take (i+1)) A3 l3 c3 w3 (by have:=HN.out;have:=bulk_take ls (i+1);omega) HC.out (by exact HN3.out.kd)).mono ?_;rintro e w4 ⟨A4,l4,c4,rfl,hN4,hb4⟩;have HB4:=Lib.hid (below_next (below_next HB2.out hb3) hb4);have HS3:=Lib.hid (Nat.le_trans HB2.out.size hb3.size);have HN4:=Lib.hid hN4;obtain⟨d0,d1,d2,d3,df⟩:=(HWX.out.call HB4.out).all)
     | fail)
    all_goals
     go_wp2_with fail;refine bodyPost_ret (v:=.agg #[.int .u8 25,.int .u64 0,.string ⟨#[]⟩,.slice A4 l4 c4]) (by simp[results,Tryz.results29,go_sem,d0,d1,d2,d3]) rfl ?_;have hs1:=HWX.out.lt;have hs3:=HS3.out;have hsB:=HWB.out.size;exact⟨A4,l4,c4,rfl,by rw[←HE.out];exact(HN4.out.far4 (by omega) _ _ _ _).less (by omega),below_set4 (HWB.out.trans (HB4.out.mono hsB)) (by omega) _ _ _ _⟩
end Go.Proofs.YtcilmmdmkpnppaaGreatDoor.Fl
end
section
namespace Go.Proofs.YtcilmmdmkpnppaaGreatDoor.Msg
set_option maxRecDepth 100000
open Go.RowKit Utf Val V
theorem xnumk (k n:Nat)(w:World):Calls Tryz.prog 33 #[.int .u8 (k:Int),.int .u64 (n:Int)] w fun e w'=>e=.returned (.agg #[.int .u8 (k:Int),.int .u64 (n:Int),.string ⟨#[]⟩,.slice none 0 0])∧Below w.heap.size w w':=by
 go_enter Tryz.func33,Tryz.ntmps33;go_wp2;exact bodyPost_ret (v:=.agg #[.int .u8 (k:Int),.int .u64 (n:Int),.string ⟨#[]⟩,.slice none 0 0]) (by simp[results,Tryz.results33,go_sem]) rfl ⟨rfl,(Below.refl _ _).alloc (Nat.le_refl _) _⟩
theorem xnull_ (w:World):Calls Tryz.prog 28 #[] w fun e w'=>e=.returned (.agg #[.int .u8 1,.int .u64 0,.string ⟨#[]⟩,.slice none 0 0])∧Below w.heap.size w w':=by
 go_enter Tryz.func28,Tryz.ntmps28;go_wp2;exact bodyPost_ret (v:=.agg #[.int .u8 1,.int .u64 0,.string ⟨#[]⟩,.slice none 0 0]) (by simp[results,Tryz.results28,go_sem]) rfl ⟨rfl,(Below.refl _ _).alloc (Nat.le_refl _) _⟩
theorem xmnum_any (k n:Nat)(b:Bool)(w:World):Calls Tryz.prog 30 #[.int .u8 (k:Int),.int .u64 (n:Int),.bool b] w (fun e w'=>e=.returned (.agg #[.int .u8 ((if b then 1 else k:Nat):Int),.int .u64 ((if b then 0 else n:Nat):Int),.string ⟨#[]⟩,.slice none 0 0])∧Below w.heap.size w w'):=by
 have hx0:=Box.new w (.int .u8 0) (.int .u64 0) (.string ⟨#[]⟩) (.slice none 0 0);have hb0:Below w.heap.size w (w.alloc (.cells #[.int .u8 0,.int .u64 0,.string ⟨#[]⟩,.slice none 0 0] 44)):=(Below.refl _ _).alloc (Nat.le_refl _) _;cases b with
 | true=>
  go_enter Tryz.func30,Tryz.ntmps30;go_wp2_with fail
  (with_reducible refine(xnull_ _).mono ?_)
  rintro e w1 ⟨rfl,hb1⟩;obtain⟨d0,d1,d2,d3,df⟩:=(hx0.call hb1).all;have HB1:=Lib.hid (below_next hb0 hb1);clear hb1 hb0 hx0;go_wp2;refine bodyPost_ret (v:=.agg #[.int .u8 1,.int .u64 0,.string ⟨#[]⟩,.slice none 0 0]) (by simp[results,Tryz.results30,go_sem,d0,d1,d2,d3]) rfl ?_;exact⟨rfl,below_set4 HB1.out (Nat.le_refl _) _ _ _ _⟩
 | false=>
  go_enter Tryz.func30,Tryz.ntmps30;go_wp2_with fail
  (with_reducible refine(xnumk k n _).mono ?_)
  rintro e w1 ⟨rfl,hb1⟩;obtain⟨d0,d1,d2,d3,df⟩:=(hx0.call hb1).all;have HB1:=Lib.hid (below_next hb0 hb1);clear hb1 hb0 hx0;go_wp2;refine bodyPost_ret (v:=.agg #[.int .u8 (k:Int),.int .u64 (n:Int),.string ⟨#[]⟩,.slice none 0 0]) (by simp[results,Tryz.results30,go_sem,d0,d1,d2,d3]) rfl ?_;exact⟨rfl,below_set4 HB1.out (Nat.le_refl _) _ _ _ _⟩
end Go.Proofs.YtcilmmdmkpnppaaGreatDoor.Msg
end
section
namespace Go.Proofs.YtcilmmdmkpnppaaGreatDoor.Enc
set_option maxRecDepth 100000
open Go.RowKit Utf
theorem div_step (X i:Nat):((X / 256 ^ i:Nat):Int) / 256=((X / 256 ^ (i+1):Nat):Int):=by
 rw[Nat.pow_succ,←Nat.div_div_eq_div_mul];simp
set_option maxHeartbeats 800000 in
theorem xlay_any (X m:Nat)(hm:m≤8)(hX:X < 18446744073709551616)(w:World):Calls Tryz.prog 142 #[.slice none 0 0,.int .u64 (X:Int),.int .i64 (m:Int)] w (GivesL w.heap.size (be X m) w):=by
 have ho0:Utf.Own .u8 256 5 (w.alloc (.cells #[] 5)) w.heap.size (some ⟨w.heap.size,0,none⟩) 0 0 []:=own_lit8 w w.heap.size 0 [] rfl (by simp) (by unfold maxLen;omega) (Nat.le_refl _);have hr0:Rd .u8 256 (w.alloc (.cells #[] 5)) w.heap.size none 0 []:=Rd.zero _ _ _ _ _;have hb0:Below w.heap.size w (w.alloc (.cells #[] 5)):=(Below.refl _ _).alloc (Nat.le_refl _) _;have d8:decide ((m:Int)≤8)=true:=decide_eq_true (by omega);go_enter Tryz.func142,Tryz.ntmps142;go_wp2_with (at_builtin;refine wpList_app8 (l:=[]) (L:=[]) rfl _ _ rfl rfl ho0 rfl hr0 (by omega) hb0.size ?_;intro A2 c2 w2 hown2 hgrow2);simp only[Nat.zero_add,List.nil_append] at hown2;have hb2:=hb0.trans (below_grown ho0 hgrow2 hb0.size);clear hr0 hb0 hgrow2;go_loopw [7,8] (fun b i wr=>∃ A' n' c' L j,j≤m∧n'+j=m∧b=.slice A' n' c'∧i=.int .i64 (j:Int)∧Utf.Own .u8 256 5 wr w.heap.size A' n' c' L∧L++be X j=be X m∧Below w.heap.size w wr) (fun _ i _=>(intOf i).toNat)
 case atStart=>exact⟨A2,0,c2,[],m,Nat.le_refl _,by omega,rfl,rfl,hown2,rfl,hb2⟩
 case round=>
  obtain⟨A',n',c',L,j,hj,hnj,rfl,rfl,ho,hL,hb⟩:=hrel;have HL:=Lib.hid hL;have HN:=Lib.hid hnj;have hn':n'≤8:=by omega
  clear hL hnj;by_cases hj0:j=0
  ·subst hj0;go_wp2;go_ret;exact GivesL.mk rfl (by simpa [be] using HL.out) ho hb
  ·obtain⟨i,rfl⟩:∃ i,j=i+1:=⟨j - 1,by omega⟩;clear hj0;obtain⟨wo,rfl⟩:∃ wo:World,wo=wr:=⟨_,rfl⟩;have d0:decide ((0:Int) < ((i+1:Nat):Int))=true:=by simp
   have hs1:=hb.size;go_wp2;go_loop [9,10] (fun y t=>∃ q:Nat,q≤i∧t=.int .i64 ((q:Int)+1)∧y=.int .u64 (X / 256 ^ q:Nat)) (fun _ t=>i+1 - (intOf t).toNat)
   case atStart=>exact⟨0,Nat.zero_le _,rfl,by simp⟩
   case round=>
    obtain⟨q,hq,rfl,rfl⟩:=hrel;have hdv:=div_step X q;have HD:=Lib.hid hdv;clear hdv;have hyX:X / 256 ^ q < 18446744073709551616:=Nat.lt_of_le_of_lt (Nat.div_le_self _ _) hX;by_cases hlt:q < i
    ·generalize X / 256 ^ q=y at *;go_wp2;exact⟨⟨q+1,by omega,by go_num,by rw[HD.out]⟩,by simp[intOf];omega⟩
    ·obtain rfl:q=i:=by omega
     have HU:Hid (be X (q+1)=X / 256 ^ q % 256::be X q):=Lib.hid rfl;clear HD hlt;generalize X / 256 ^ q=y at *;obtain⟨z,hz⟩:∃ z:Nat,z=y % 256:=⟨_,rfl⟩;have hz256:z < 256:=by omega
     have hzy:(y:Int) % 256=(z:Int):=by omega
     have hzt:(y:Int).tmod 256=(z:Int):=by rw[Int.tmod_eq_emod_of_nonneg (by omega)];omega
     rw[←hz] at HU;clear hz;go_wp2_with (at_builtin;refine wpList_app8 (l:=[z]) (B:=wo.heap.size+1) rfl _ _ rfl rfl (ho.alloc _) rfl (rd_new _ _ _ hz256 (by rfl)) (by omega) (by simp;omega) ?_;intro A2 c2 w2 hown2 hgrow2);go_roundw
     case rel=>
      have hN:=HN.out;refine⟨A2,n'+1,c2,_,q,by omega,by omega,rfl,?_,hown2,?_,?_⟩
      ·congr 1
      ·rw[←HL.out,HU.out,List.append_assoc];rfl
      ·exact(hb.alloc (by omega) _).trans (below_grown (ho.alloc _) hgrow2 (by simp;omega))
     case measure=>simp[intOf]
def GivesX (base:Nat)(l:List Nat)(w:World)(e:Ending)(w':World):Prop:=∃ A n c,e=.returned (.tuple #[.slice A n c,.int .i64 0])∧Utf.Own .u8 256 5 w' base A n c l∧Below base w w'
theorem xlay_1 (X:Nat)(hX:X < 18446744073709551616)(w:World):Calls Tryz.prog 142 #[.slice none 0 0,.int .u64 (X:Int),.int .i64 1] w (GivesL w.heap.size (be X 1) w):=xlay_any X 1 (by omega) hX w
theorem xlay_4 (X:Nat)(hX:X < 18446744073709551616)(w:World):Calls Tryz.prog 142 #[.slice none 0 0,.int .u64 (X:Int),.int .i64 4] w (GivesL w.heap.size (be X 4) w):=xlay_any X 4 (by omega) hX w
theorem xlayp_1 (A:Option Addr)(n c:Nat)(p:List Nat)(w:World)(hr:Rd .u8 256 w w.heap.size A n p)(hn:n≤255) :
  Calls Tryz.prog 139 #[.slice none 0 0,.slice A n c,.int .i64 1] w (GivesX w.heap.size (be n 1++p) w):=by
 have d:decide (255 < (n:Int))=false:=decide_eq_false (by omega);have d2:decide (2147483647 < (n:Int))=false:=decide_eq_false (by omega);go_enter Tryz.func139,Tryz.ntmps139;go_wp2_with (first
  | (go_at_call 142;(with_reducible refine(xlay_1 n (by omega) w).mono ?_);rintro e w1 ⟨A1,n1,c1,rfl,ho,hb⟩;have hl1:=ho.len;rw[be_length] at hl1;subst hl1;have hs1:=hb.size;have hr1:=hr.below hb)
  | (at_builtin;refine wpList_app8 (l:=p) rfl _ _ rfl rfl ho rfl hr1 (by omega) hs1 ?_;intro A3 c3 w3 hown3 hgrow3))
 go_ret2;exact⟨_,_,_,rfl,hown3,hb.trans (below_grown ho hgrow3 hs1)⟩
theorem xlayp_4 (A:Option Addr)(n c:Nat)(p:List Nat)(w:World)(hr:Rd .u8 256 w w.heap.size A n p)(hn:n≤2147483647) :
  Calls Tryz.prog 139 #[.slice none 0 0,.slice A n c,.int .i64 4] w (GivesX w.heap.size (be n 4++p) w):=by
 have d2:decide (2147483647 < (n:Int))=false:=decide_eq_false (by omega);go_enter Tryz.func139,Tryz.ntmps139;go_wp2_with (first
  | (go_at_call 142;(with_reducible refine(xlay_4 n (by omega) w).mono ?_);rintro e w1 ⟨A1,n1,c1,rfl,ho,hb⟩;have hl1:=ho.len;rw[be_length] at hl1;subst hl1;have hs1:=hb.size;have hr1:=hr.below hb)
  | (at_builtin;refine wpList_app8 (l:=p) rfl _ _ rfl rfl ho rfl hr1 (by omega) hs1 ?_;intro A3 c3 w3 hown3 hgrow3))
 go_ret2;exact⟨_,_,_,rfl,hown3,hb.trans (below_grown ho hgrow3 hs1)⟩
theorem xcounted_1 (m:Nat)(A:Option Addr)(n c:Nat)(p:List Nat)(w:World)(hr:Rd .u8 256 w w.heap.size A n p)(hm:m≤1099511627776)(hn:1+n≤255) :
  Calls Tryz.prog 140 #[.int .i64 1,.int .i64 (m:Int),.slice A n c] w (GivesL w.heap.size (be (1+n) 1++be m 1++p) w):=by
 go_enter Tryz.func140,Tryz.ntmps140;go_wp2_with (first
  | (go_at_call 142;(with_reducible refine(xlay_1 m (by omega) w).mono ?_);rintro e w1 ⟨A1,n1,c1,rfl,ho,hb⟩;have hl1:=ho.len;rw[be_length] at hl1;subst hl1;have hs1:=hb.size;have hr1:=hr.below hb)
  | (at_builtin;refine wpList_app8 (l:=p) rfl _ _ rfl rfl ho rfl hr1 (by omega) hs1 ?_;intro A3 c3 w3 hown3 hgrow3;have hb3:=hb.trans (below_grown ho hgrow3 hs1);have hr3:=hown3.rd)
  | (go_at_call 139;(with_reducible refine(xlayp_1 A3 (1+n) c3 _ w3 hr3 (by omega)).mono ?_);rintro e w4 ⟨A4,n4,c4,rfl,ho4,hb4⟩))
 go_ret;exact GivesL.mk rfl (by rw[List.append_assoc]) (ho4.mono hb3.size) (hb3.trans (hb4.mono hb3.size))
theorem xcounted_4 (m:Nat)(A:Option Addr)(n c:Nat)(p:List Nat)(w:World)(hr:Rd .u8 256 w w.heap.size A n p)(hm:m≤1099511627776)(hn:4+n≤2147483647) :
  Calls Tryz.prog 140 #[.int .i64 4,.int .i64 (m:Int),.slice A n c] w (GivesL w.heap.size (be (4+n) 4++be m 4++p) w):=by
 go_enter Tryz.func140,Tryz.ntmps140;go_wp2_with (first
  | (go_at_call 142;(with_reducible refine(xlay_4 m (by omega) w).mono ?_);rintro e w1 ⟨A1,n1,c1,rfl,ho,hb⟩;have hl1:=ho.len;rw[be_length] at hl1;subst hl1;have hs1:=hb.size;have hr1:=hr.below hb)
  | (at_builtin;refine wpList_app8 (l:=p) rfl _ _ rfl rfl ho rfl hr1 (by omega) hs1 ?_;intro A3 c3 w3 hown3 hgrow3;have hb3:=hb.trans (below_grown ho hgrow3 hs1);have hr3:=hown3.rd)
  | (go_at_call 139;(with_reducible refine(xlayp_4 A3 (4+n) c3 _ w3 hr3 (by omega)).mono ?_);rintro e w4 ⟨A4,n4,c4,rfl,ho4,hb4⟩))
 go_ret;exact GivesL.mk rfl (by rw[List.append_assoc]) (ho4.mono hb3.size) (hb3.trans (hb4.mono hb3.size))
end Go.Proofs.YtcilmmdmkpnppaaGreatDoor.Enc
end
