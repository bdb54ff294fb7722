/-
  Contracts of functions and plain mathematics, text by text, each with its conditions ahead of it:
  The walk of encode's plan.
  Contract of encode.Value: the bytes of a value that may be, in new memory, or that it may not be. Conditions: bulk at most 2^22; the table of package utf.
-/
import Derived.Test.YtcilmmdmkpnppaaGreatDoorY06
import Derived.Test.YtcilmmdmkpnppaaGreatDoorY14
import Derived.Deep.RegionLaw
import Derived.Deep.LoopGhost
section
namespace Go.Proofs.YtcilmmdmkpnppaaGreatDoor.Enc
set_option maxRecDepth 100000
open Go.RowKit Utf Val V
theorem kid_at {w:World}{ks:List V}{A:Option Addr}{l c:Nat}(h:Val.Kids false w (Lo w.heap.size) ks A l c){i:Nat}(hi:i < l):∃ b o k n t ks' A' l' c',A=some ⟨b,o,none⟩∧ks[i]? = some (.mk k n t ks') ∧
  (∀ wx:World,Below w.heap.size w wx→wx.cell? ⟨b,o+i * 4,none⟩=some (.int .u8 (k:Int))∧wx.cell? ⟨b,o+i * 4+1,none⟩=some (.int .u64 (n:Int))∧wx.cell? ⟨b,o+i * 4+2,none⟩=some (.string t)∧wx.cell? ⟨b,o+i * 4+3,none⟩=some (.slice A' l' c')) ∧
  k < 256∧n < 18446744073709551616∧Val.Kids false w (Lo w.heap.size) ks' A' l' c':=by
 obtain⟨b,o,k,n,t,ks',A',l',c',e,hP,hx,h0,h1,h2,h3,hk,hn,hK⟩:=h.at_ hi;exact⟨b,o,k,n,t,ks',A',l',c',e,hx,fun wx hb=>⟨(hb.cell (p:=⟨b,o+i * 4,none⟩) hP).trans h0,(hb.cell (p:=⟨b,o+i * 4+1,none⟩) hP).trans h1,(hb.cell (p:=⟨b,o+i * 4+2,none⟩) hP).trans h2,(hb.cell (p:=⟨b,o+i * 4+3,none⟩) hP).trans h3⟩,hk,hn,hK⟩
set_option maxHeartbeats 2000000 in
theorem plan_step (k0 n0:Nat)(t0:ByteArray)(ks0:List V)(HN:(plan (.mk k0 n0 t0 ks0)).kind=24→PlanV nullV)(IH:∀ v,bulk v < bulk (.mk k0 n0 t0 ks0)→mayB v=true→PlanV v)(hm0:mayB (.mk k0 n0 t0 ks0)=true)(hbulk:bulk (.mk k0 n0 t0 ks0)≤33554432)(hk0:k0 < 256)(hn0:n0 < 18446744073709551616)
  (A0:Option Addr) (l0 c0 bm:Nat) (w:World) (hM:CM w bm) (hK0:Kd w ks0 A0 l0 c0):Calls Tryz.prog 49 #[.map (some bm),.agg #[.int .u8 (k0:Int),.int .u64 (n0:Int),.string t0,.slice A0 l0 c0]] w (GivesP (plan (.mk k0 n0 t0 ks0)) w):=by
 have hsc:=store_cplx;have HIH:=Lib.hid IH;clear IH;have hP0:P1 w (((w.alloc (.cells #[.int .u8 (k0:Int),.int .u64 (n0:Int),.string t0,.slice A0 l0 c0] 44)).alloc (.cells #[.slice none 0 0,.int .u8 0,.int .u64 0,.string ⟨#[]⟩,.slice none 0 0,.int .u8 0,.bool false,.slice none 0 0,.complex .f64 0 0] 73)).alloc (.cells #[.slice none 0 0,.int .u8 (k0:Int),.int .u64 (n0:Int),.string t0,.slice A0 l0 c0,.int .u8 0,.bool false,.slice none 0 0,.complex .f64 0 0] 73)) (.mk k0 n0 t0 ks0) none 0 0 [] [] k0 n0 t0 ks0 A0 l0 c0:=by
  refine⟨(addN_nil _).symm,hm0,by simp,⟨hk0,hn0⟩,hK0,?_,?_,PR.nil _ _,(((Below.refl _ _).alloc (Nat.le_refl _) _).alloc (by simp) _).alloc (by simp;omega) _,by simp⟩
  ·have:=Bx.new ((w.alloc (.cells #[.int .u8 (k0:Int),.int .u64 (n0:Int),.string t0,.slice A0 l0 c0] 44)).alloc (.cells #[.slice none 0 0,.int .u8 0,.int .u64 0,.string ⟨#[]⟩,.slice none 0 0,.int .u8 0,.bool false,.slice none 0 0,.complex .f64 0 0] 73)) (.slice none 0 0) (.int .u8 (k0:Int)) (.int .u64 (n0:Int)) (.string t0) (.slice A0 l0 c0) (.int .u8 0) (.bool false) (.slice none 0 0) (.complex .f64 0 0)
   simpa using this
  ·have:=(Bx.new (w.alloc (.cells #[.int .u8 (k0:Int),.int .u64 (n0:Int),.string t0,.slice A0 l0 c0] 44)) (.slice none 0 0) (.int .u8 0) (.int .u64 0) (.string ⟨#[]⟩) (.slice none 0 0) (.int .u8 0) (.bool false) (.slice none 0 0) (.complex .f64 0 0)).alloc (.cells #[.slice none 0 0,.int .u8 (k0:Int),.int .u64 (n0:Int),.string t0,.slice A0 l0 c0,.int .u8 0,.bool false,.slice none 0 0,.complex .f64 0 0] 73)
   simpa using this
 go_enter Tryz.func49,Tryz.ntmps49;go_wp2;go_loopg [15] (bulk (.mk k0 n0 t0 ks0)) (fun g _ wr=>∃ NA nl nc done xs k n t ks A l c,g=bulk (.mk k n t ks)∧P1 w wr (.mk k0 n0 t0 ks0) NA nl nc done xs k n t ks A l c)
 case atStart=>exact⟨_,_,_,_,_,_,_,_,_,_,_,_,rfl,hP0⟩
 case round=>
  obtain⟨NA,nl,nc,done,xs,k,n,t,ks,A,l,c,hg,hP⟩:=hrel;clear hP0;obtain⟨q0,q1,q2,q3,q4,q5,q6,q7,q8,qf⟩:=hP.box.all;by_cases hk:k=25
  ·subst hk;obtain⟨x,y,rfl,hnm,hmx,hmy⟩:=may_desc hP.may;obtain rfl:l=2:=hP.kd.1;have hblk:=hP.blk;have hrl:=hP.row.len;obtain⟨b,o,k1,n1,t1,ks1,A1,l1,c1,rfl,hx1,hx,hk1,hn1,hK1⟩:=kid_at hP.kd (i:=0) (by omega);obtain⟨b',o',k2,n2,t2,ks2,A2,l2,c2,e2,hx2,hy,hk2,hn2,hK2⟩:=kid_at hP.kd (i:=1) (by omega);injection e2 with e2
   injection e2 with e2 e3
   subst e2 e3;simp only[List.getElem?_cons_zero,List.getElem?_cons_succ,Option.some.injEq] at hx1 hx2;subst hx1 hx2;rw[Nat.zero_mul,Nat.add_zero] at hx;rw[Nat.one_mul] at hy;have q1:wr.cell? ⟨w.heap.size+1+1,1,none⟩=some (.int .u8 25):=q1;have hcall:∀ wx:World,Below w.heap.size w wx→Calls Tryz.prog 49 #[.map (some bm),.agg #[.int .u8 (k1:Int),.int .u64 (n1:Int),.string t1,.slice A1 l1 c1]] wx (GivesP (plan (.mk k1 n1 t1 ks1)) wx):=fun wx hb=>
    HIH.out (.mk k1 n1 t1 ks1) (by simp only[bulk,bulkL] at hblk ⊢;omega) hmx hk1 hn1 A1 l1 c1 bm wx (hM.call hb) (kids_kd hK1 hb)
   have hnl:nl≤33554432:=by omega
   have hob:=hP.row.blk;have hfar:∀ r,(Value.slice NA nl nc).ownBlock=some r→w.heap.size+1+1 < r:=fun r e=>by have:=hob r e;omega
   have hsz:=hP.sz;have hws:=hP.low.size;have HP:=Lib.hid hP;have HB:=Lib.hid hP.box;have HL:=Lib.hid hP.low;have HR:=Lib.hid hP.row;obtain⟨d0,d1,d2,d3⟩:=hx wr.drew hP.low.drew;obtain⟨i0,hi,hz0,hz1,hz2⟩:=info_parts infoP;have HX:=Lib.hid hx;have HY:=Lib.hid hy;have HG:=Lib.hid hg;clear hP hx hy hg hblk hmx hmy hnm;go_wp2_with fail;go_region_law (first
    | (refine step_append_lies _ rfl _ _ 70 rfl (w.heap.size+1+1+1) 73 i0 _ 9 128 Tryz.underlying70 hi hz0 hz1 hz2 rfl (by omega) _ _ _ rfl (by exact(hrow1.own.alloc _)) ⟨w1.heap.size,0,none⟩ 1 1 [.slice NA' nl' nc',.int .u8 (k':Int),.int .u64 (n':Int),.string t',.slice VA' vl' vc',.int .u8 (code':Int),.bool bb',.slice KA' kl' kc',.complex .f64 (fb re') (fb im')] rfl rfl (by exact news9 _ _ _ _ _ _ _ _ _ _ _ _ (by simp)) (fun u hu=>(by simp at hu;rcases hu with rfl | rfl | rfl | rfl | rfl | rfl | rfl | rfl | rfl<;>rfl)) (by omega) (by unfold maxLen;omega) (by omega) (by simp;omega) _ rfl ?_;intro g9 cap9 w9 hown9 hgrow9 hat9 _;have hbx9:=((HB.out.call hb1').alloc _).grown hgrow9 hfar;clear q0 q1 q2 q3 q4 q5 q6 q7 q8 qf;obtain⟨q0,q1,q2,q3,q4,q5,q6,q7,q8,qf⟩:=hbx9.all;have hlow9:Below w.heap.size w w9:=((below_next HL.out hb1').alloc (by omega) (.cells #[.slice NA' nl' nc',.int .u8 (k':Int),.int .u64 (n':Int),.string t',.slice VA' vl' vc',.int .u8 (code':Int),.bool bb',.slice KA' kl' kc',.complex .f64 (fb re') (fb im')] 73)).grown hgrow9 (by simp;omega) (fun r e=>by have:=hob r e;omega);obtain⟨e0,e1,e2,e3⟩:=HY.out _ (hlow9.setCell (p:=⟨w.heap.size+1+1,0,none⟩) (by simp;omega) (.slice (some ⟨g9,0,none⟩) (nl+1) cap9)))
    | (go_simp;go_at_call 49;(with_reducible refine(hcall wr.drew HL.out.drew).mono ?_);rintro e w1 ⟨ns',k',n',t',code',bb',ks',re',im',NA',nl',nc',VA',vl',vc',KA',kl',kc',hpl,rfl,hpn,hpk,hb1⟩;have hb1':=below_next ((Below.refl wr.heap.size wr).drew) hb1;have hrow1:=HR.out.call hb1';have hs1:=hb1'.size;obtain⟨p0,p1,p2,p3,p4,p5,p6,p7,p8,pf⟩:=(HB.out.call hb1').all;obtain⟨r0,r1,r2,r3,r4,r5,r6,r7,r8,rf⟩:=((HB.out.call hb1').alloc (.cells #[.slice NA' nl' nc',.int .u8 (k':Int),.int .u64 (n':Int),.string t',.slice VA' vl' vc',.int .u8 (code':Int),.bool bb',.slice KA' kl' kc',.complex .f64 (fb re') (fb im')] 73)).all))
   all_goals
    go_wp2;go_roundg (bulk (.mk k2 n2 t2 ks2))
    case measure=>have:=HG.out;simp only[bulk,bulkL] at this ⊢;omega
    case rel=>exact⟨_,_,_,_,_,_,_,_,_,_,_,_,rfl,HP.out.step ⟨hk2,hn2⟩ hK2 hb1' (hpl▸repC_of hpn hpk) _ hown9 hgrow9 (hat9.imp id fun h=>by simp at h;omega)⟩
  ·have dk:((k:Int)==25)=false:=by rw[beq_eq_false_iff_ne];omega
   have hmay:=hP.may;have hkk:=may_kind hmay hk;have hblk:=hP.blk;have hl:l=ks.length:=hP.kd.1;have hks:=may_kids hmay;have hkd:=hP.kd;have hsz:=hP.sz;have hws:=hP.low.size;obtain⟨KS,hKS⟩:∃ KS,(if k=24 then alikeP (planL ks) else planL ks)=KS:=⟨_,rfl⟩;have hpl0:plan (.mk k n t ks)=fin [] k n t l KS:=by rw[plan_core n t ks hk,hKS,hl]
   have heq:Hid (plan (.mk k0 n0 t0 ks0)=.mk done k n t (first [raw done k n t l KS]) false KS (longK KS) l):=Lib.hid (by rw[hP.eq,hpl0,addN_fin]);have hfine:Fine 1099511627776 (fin [] k n t l KS):=hpl0▸fine_plan 1099511627776 (.mk k n t ks) hmay (by simp only[bulk] at hblk hbulk ⊢;omega);have hlK:longK KS≤1099511627776:=hfine.1.2.2.2.1;have hKl:KS.length≤1099511627776:=hfine.2.1;have HFK:Hid (FineL 1099511627776 KS):=Lib.hid hfine.2.2.2;have HKS2:Hid ((if k=24 then alikeP (planL ks) else planL ks)=KS):=Lib.hid hKS;have HFL:Hid (FineL 1099511627776 (planL ks)):=Lib.hid (fine_planL 1099511627776 ks hks (by simp only[bulk] at hblk hbulk;omega));have HNN:Hid (k=24→PlanV nullV):=Lib.hid (fun h24=>HN (by rw[hP.eq,hpl0];simp[addN,fin,Pl.kind];exact h24));clear hfine hKS hpl0;have hbks:40 * bulkL ks≤1099511627776:=by simp only[bulk] at hblk hbulk;omega
   have hlen:ks.length≤33554432:=by have:=length_bulk ks;simp only[bulk] at hblk hbulk;omega
   have hIH:∀ v,bulk v≤bulkL ks→mayB v=true→PlanV v:=fun v hv hm=>HIH.out v (by simp only[bulk] at hblk ⊢;omega) hm;have hP2:=P2.start hP;obtain⟨B,hBB⟩:∃ B,wr.heap.size=B:=⟨_,rfl⟩;rw[hBB] at hP2;have HP2:=Lib.hid hP2;have HL:=Lib.hid hl;have HKD:=Lib.hid hkd;have HKS:=Lib.hid hks;have HI:=Lib.hid hIH;have HM:=Lib.hid hM;have hcf:=conv_float;clear hP hP2 hg hblk hmay hl hkd hks hIH hM HIH hBB;go_wp2;clear q0 q1 q2 q3 q4 q5 q6 q7 q8 qf hsz hws;go_loopw [45] (fun i w2=>∃ (j:Nat) (KA:Option Addr) (kl kc:Nat) (xs2:List Value),j≤l∧i=.int .i64 (j:Nat)∧P2 w w2 B done NA nl nc KA kl kc (planL (ks.take j)) xs2 k n t A l c) (fun i _=>l - (intOf i).toNat)
   case atStart=>exact⟨0,none,0,0,[],Nat.zero_le _,rfl,by simpa [planL] using HP2.out⟩
   case round=>
    obtain⟨j,KA,kl,kc,xs2,hj,rfl,h2⟩:=hrel;clear HP2;have hrl:=h2.row.len;rw[planL_length,List.length_take] at hrl;by_cases hlt:j < l
    ·obtain⟨b,o,k1,n1,t1,ks1,A1,l1,c1,rfl,hx1,hx,hk1,hn1,hK1⟩:=kid_at HKD.out hlt;have hmem:V.mk k1 n1 t1 ks1∈ks:=List.mem_of_getElem? hx1;have hcall:∀ wx:World,Below w.heap.size w wx→Calls Tryz.prog 49 #[.map (some bm),.agg #[.int .u8 (k1:Int),.int .u64 (n1:Int),.string t1,.slice A1 l1 c1]] wx (GivesP (plan (.mk k1 n1 t1 ks1)) wx):=fun wx hb=>
      HI.out (.mk k1 n1 t1 ks1) (mem_bulk hmem) (mayL_mem HKS.out _ hmem) hk1 hn1 A1 l1 c1 bm wx (HM.out.call hb) (kids_kd hK1 hb)
     have HT:Hid (planL (ks.take (j+1))=planL (ks.take j)++[plan (.mk k1 n1 t1 ks1)]):=Lib.hid (by rw[List.take_add_one,hx1];simp[planL_append,planL]);have hkl:kl≤33554432:=by omega
     have hll:l≤33554432:=by have:=HL.out;omega
     obtain⟨d0,d1,d2,d3⟩:=hx wr h2.low;obtain⟨i0,hi,hz0,hz1,hz2⟩:=info_parts infoP;have hob:=h2.row.blk;have hB:=h2.hB;have hsz:=h2.sz;have hws:=h2.low.size;have hfar:∀ r,(Value.slice KA kl kc).ownBlock=some r→w.heap.size+1+1 < r:=fun r e=>by have:=hob r e;omega
     have hW0:wr.heap.size < (wr.alloc (.cells #[.int .u8 (k1:Int),.int .u64 (n1:Int),.string t1,.slice A1 l1 c1] 44)).heap.size:=by simp
     have hBW:=(Below.refl wr.heap.size wr).alloc (Nat.le_refl _) (.cells #[.int .u8 (k1:Int),.int .u64 (n1:Int),.string t1,.slice A1 l1 c1] 44);have hzz:=Box.new wr (.int .u8 (k1:Int)) (.int .u64 (n1:Int)) (.string t1) (.slice A1 l1 c1);obtain⟨W0,hWW⟩:∃ W0,wr.alloc (.cells #[.int .u8 (k1:Int),.int .u64 (n1:Int),.string t1,.slice A1 l1 c1] 44)=W0:=⟨_,rfl⟩;rw[hWW] at hBW hzz hW0;have hBX:=h2.box.call hBW;have hLW:=below_next h2.low hBW;obtain⟨q0,q1,q2,q3,q4,q5,q6,q7,q8,qf⟩:=hBX.all;obtain⟨z0,z1,z2,z3,_⟩:=hzz.all;have H2:=Lib.hid h2;have HB:=Lib.hid hBX;have HL2:=Lib.hid hLW;have HR:=Lib.hid h2.row;have HBW:=Lib.hid hBW;clear h2 hx hx1 hmem hBX hLW hBW hzz;go_wp2_with fail;go_region_law (first
      | (refine step_append_lies _ rfl _ _ 70 rfl B 73 i0 _ 9 128 Tryz.underlying70 hi hz0 hz1 hz2 rfl (by omega) _ _ _ rfl (by exact(hrow1.own.alloc _)) ⟨w1.heap.size,0,none⟩ 1 1 [.slice NA' nl' nc',.int .u8 (k':Int),.int .u64 (n':Int),.string t',.slice VA' vl' vc',.int .u8 (code':Int),.bool bb',.slice KA' kl' kc',.complex .f64 (fb re') (fb im')] rfl rfl (by exact news9 _ _ _ _ _ _ _ _ _ _ _ _ (by simp)) (fun u hu=>(by simp at hu;rcases hu with rfl | rfl | rfl | rfl | rfl | rfl | rfl | rfl | rfl<;>rfl)) (by omega) (by unfold maxLen;omega) (by omega) (by simp;omega) _ rfl ?_;intro g9 cap9 w9 hown9 hgrow9 hat9 _;have hbx9:=((HB.out.call hb1w).alloc _).grown hgrow9 hfar;clear q0 q1 q2 q3 q4 q5 q6 q7 q8 qf;obtain⟨q0,q1,q2,q3,q4,q5,q6,q7,q8,qf⟩:=hbx9.all)
      | (go_simp;go_at_call 49;(with_reducible refine(hcall W0.drew HL2.out.drew).mono ?_);rintro e w1 ⟨ns',k',n',t',code',bb',ks',re',im',NA',nl',nc',VA',vl',vc',KA',kl',kc',hpl,rfl,hpn,hpk,hb1⟩;have hb1w:=below_next ((Below.refl W0.heap.size W0).drew) hb1;have hb1':=below_next HBW.out hb1w;have hrow1:=HR.out.call hb1';have hs1:=hb1'.size;obtain⟨p0,p1,p2,p3,p4,p5,p6,p7,p8,pf⟩:=(HB.out.call hb1w).all;obtain⟨r0,r1,r2,r3,r4,r5,r6,r7,r8,rf⟩:=((HB.out.call hb1w).alloc (.cells #[.slice NA' nl' nc',.int .u8 (k':Int),.int .u64 (n':Int),.string t',.slice VA' vl' vc',.int .u8 (code':Int),.bool bb',.slice KA' kl' kc',.complex .f64 (fb re') (fb im')] 73)).all))
     all_goals
      go_wp2;go_roundw
      case measure=>simp[intOf];omega
      case rel=>exact⟨j+1,_,_,_,_,by omega,by go_num,by rw[HT.out];exact H2.out.step hb1' (hpl▸repC_of (hpn.less (by simp;omega)) (hpk.less (by simp;omega))) _ hown9 hgrow9 (hat9.imp id fun h=>by simp at h;omega)⟩
    ·have HE:Hid (ks.take j=ks):=Lib.hid (List.take_of_length_le (by have:=HL.out;omega));rw[HE.out] at h2;have hlp:Hid ((planL ks).length=kl):=Lib.hid h2.row.len;have hkl:kl≤1099511627776:=by have:=hlp.out;rw[planL_length] at this;omega
     have hBnd:Bnd (planL ks):=fun p hp=>by
      obtain⟨ns',k',n',t',c',b',ks',re',im'⟩:=p;have:=(fineL_mem HFL.out _ hp).1;exact⟨by have:=this.2.2.2.1;simp only[Pl.re];omega,by have:=this.2.2.2.2.1;simp only[Pl.im];omega⟩
     have hkinds:∀ p,(planL ks)[0]? = some p→1≤p.kind∧p.kind≤24:=fun p hp=>by
      rw[planL_map] at hp;obtain⟨v,hv,rfl⟩:=List.mem_map.1 (List.mem_of_getElem? hp);have hm:=mayL_mem HKS.out v hv;rw[(plan_kind v hm).1];exact core_kind v hm
     obtain⟨q0,q1,q2,q3,q4,q5,q6,q7,q8,qf⟩:=h2.box.all;have hB:=h2.hB;have hsz:=h2.sz;have hws:=h2.low.size;by_cases k24:k=24
     ·have d24:((k:Int)==24)=true:=by rw[beq_iff_eq];omega
      have HAL:=Lib.hid (ealike_any (HNN.out k24) B bm KA kl kc (planL ks) xs2 wr (HM.out.call h2.low) h2.row hBnd hsz hkl hkinds);have HKE:alikeP (planL ks)=KS:=by have:=HKS2.out;rwa [if_pos k24] at this
      rw[HKE] at HAL;have H2:=Lib.hid h2;have HBX:=Lib.hid h2.box;clear h2 hBnd hkinds HKE k24;go_wp2_with (go_at_call 92;(with_reducible refine HAL.out.mono ?_);rintro e w1 ⟨KA3,kl3,kc3,rfl,hpn,hb1⟩;obtain⟨p0,p1,p2,p3,p4,p5,p6,p7,p8,pf⟩:=(HBX.out.below hb1 (by omega)).all);have HP3:=Lib.hid (H2.out.alike hb1 hpn);clear hb1 hpn H2 HBX HAL p0 p1 p2 p3 p4 p5 p6 p7 p8 pf;clear q0 q1 q2 q3 q4 q5 q6 q7 q8 qf hB hsz hws d24 hlp hkl hrl hj hlt HE;go_loopw [70] (fun i w3=>∃ (j:Nat),j≤kl3∧i=.int .i64 (j:Nat)∧P3 w w3 B done NA nl nc KS KA3 kl3 kc3 (longK (KS.take j)) k n t A l c) (fun i _=>kl3 - (intOf i).toNat)
      case atStart=>exact⟨0,Nat.zero_le _,rfl,by simpa [longK] using HP3.out⟩
      case round=>
       obtain⟨j,hj,rfl,h3⟩:=hrel;clear HP3;obtain⟨q0,q1,q2,q3,q4,q5,q6,q7,q8,qf⟩:=h3.box.all;have hB:=h3.hB;have hsz:=h3.sz;have hws:=h3.low.size;have HK3:Hid (kl3=KS.length):=Lib.hid h3.row.1;have hl2:l≤33554432:=by have:=HL.out;omega
       have hk3:kl3≤1099511627776:=by have:=HK3.out;omega
       by_cases hlt:j < kl3
       ·obtain⟨b,o,ns',k',n',t',code',bb',ks',re',im',NA',nl',nc',VA',vl',vc',KA',kl',kc',rfl,hbb,hx,⟨a0,a1,a2,a3,a4,a5,a6,a7,a8⟩,hN',_⟩:=Ps.at_ h3.row hlt;have hf:=fineL_at HFK.out hx;obtain⟨LP,hLP⟩:∃ LP,long (.mk ns' k' n' t' code' bb' ks' re' im')=LP:=⟨_,rfl⟩;obtain⟨LK,hLK⟩:∃ LK,longK (KS.take j)=LK:=⟨_,rfl⟩;have HT:Hid (longK (KS.take (j+1))=LK+LP):=Lib.hid (by rw[longK_take hx,hLP,hLK]);have hle:=longK_take_le KS (j+1);rw[HT.out] at hle;rw[hLK] at h3 q8;have hcall:∀ wx:World,Pd wx ns' NA' nl' nc'→Calls Tryz.prog 51 #[.agg #[.slice NA' nl' nc',.int .u8 (k':Int),.int .u64 (n':Int),.string t',.slice VA' vl' vc',.int .u8 (code':Int),.bool bb',.slice KA' kl' kc',.complex .f64 (fb re') (fb im')]] wx (GivesI LP wx):=fun wx h=>hLP▸long_any _ ns' ks' NA' nl' nc' k' n' t' VA' vl' vc' code' bb' KA' kl' kc' re' im' wx (Nat.le_refl _) hf h;have hadd:∀ wx:World,(binOp .add 71 (.complex .f64 (fb LK) (fb l)) (.complex .f64 (fb LP) 0)).run Tryz.prog wx=.ok (.complex .f64 (fb (LK+LP)) (fb l)) wx:=fun wx=>add_cplx LK l LP (by omega) (by omega) wx;have hBW:=(Below.refl wr.heap.size wr).alloc (Nat.le_refl _) (.cells #[.slice NA' nl' nc',.int .u8 (k':Int),.int .u64 (n':Int),.string t',.slice VA' vl' vc',.int .u8 (code':Int),.bool bb',.slice KA' kl' kc',.complex .f64 (fb re') (fb im')] 73);have hzz:=Bx.new wr (.slice NA' nl' nc') (.int .u8 (k':Int)) (.int .u64 (n':Int)) (.string t') (.slice VA' vl' vc') (.int .u8 (code':Int)) (.bool bb') (.slice KA' kl' kc') (.complex .f64 (fb re') (fb im'));obtain⟨W0,hWW⟩:∃ W0,wr.alloc (.cells #[.slice NA' nl' nc',.int .u8 (k':Int),.int .u64 (n':Int),.string t',.slice VA' vl' vc',.int .u8 (code':Int),.bool bb',.slice KA' kl' kc',.complex .f64 (fb re') (fb im')] 73)=W0:=⟨_,rfl⟩;rw[hWW] at hBW hzz;have hNW:Pd W0 ns' NA' nl' nc':=(hN'.keep fun i hi=>hBW.block i hi.2).mono fun i hi=>Nat.lt_of_lt_of_le hi.2 hBW.size;have hBX:=h3.box.call hBW;obtain⟨r0,r1,r2,r3,r4,r5,r6,r7,r8,rf⟩:=hBX.all;obtain⟨y0,y1,y2,y3,y4,y5,y6,y7,y8,_⟩:=hzz.all;have H3:=Lib.hid h3;have HB:=Lib.hid hBX;have HBW:=Lib.hid hBW;have HNW:=Lib.hid hNW;clear h3 hx hBX hBW hzz hN' hNW hf hLP hLK hbb;go_wp2_with fail;go_region_law (go_simp;go_at_call 51;(with_reducible refine(hcall W0.drew (HNW.out.call ((Below.refl _ _).drew))).mono ?_);rintro e w2 ⟨rfl,hb2⟩;have hb2w:=below_next ((Below.refl W0.heap.size W0).drew) hb2;have hb2':=below_next HBW.out hb2w;obtain⟨p0,p1,p2,p3,p4,p5,p6,p7,p8,pf⟩:=(HB.out.call hb2w).all)
        all_goals
         go_wp2;go_roundw
         case measure=>simp[intOf];omega
         case rel=>exact⟨j+1,by omega,by go_num,by rw[HT.out];exact H3.out.step hb2'⟩
       ·have HE2:Hid (KS.take j=KS):=Lib.hid (List.take_of_length_le (by have:=HK3.out;omega));rw[HE2.out] at h3 q8;have hcells:RepC wr (fun i=>w.heap.size+1+1+1≤i∧i < wr.heap.size) (raw done k n t l KS) [.slice NA nl nc,.int .u8 (k:Int),.int .u64 (n:Int),.string t,.slice A l c,.int .u8 0,.bool false,.slice KA3 kl3 kc3,.complex .f64 (fb (longK KS)) (fb l)]:=repC_of (h3.names.mono fun i hi=>⟨hi.1,by omega⟩) (h3.row.mono fun i hi=>⟨by omega,hi.2⟩);obtain⟨W0,hWW⟩:∃ W0,wr.alloc (.cells #[.slice NA nl nc,.int .u8 (k:Int),.int .u64 (n:Int),.string t,.slice A l c,.int .u8 0,.bool false,.slice KA3 kl3 kc3,.complex .f64 (fb (longK KS)) (fb l)] 73)=W0:=⟨_,rfl⟩;have hBW:Below wr.heap.size wr W0:=hWW▸(Below.refl wr.heap.size wr).alloc (Nat.le_refl _) _;have hone:Pn (w.heap.size+1+1+1) W0 [raw done k n t l KS] (some ⟨wr.heap.size,0,none⟩) 1 1:=by
         refine pn_one hcells hBW ⟨by omega,by rw[←hWW];simp⟩ fun j u hu=>?_;have h:=news9 wr (.slice NA nl nc) (.int .u8 (k:Int)) (.int .u64 (n:Int)) (.string t) (.slice A l c) (.int .u8 0) (.bool false) (.slice KA3 kl3 kc3) (.complex .f64 (fb (longK KS)) (fb l)) 73 _ rfl j u hu;rw[hWW] at h
         rwa [show (⟨wr.heap.size,0,none⟩:Addr).add j=⟨wr.heap.size,j,none⟩ by simp[Addr.add];intro h;exact h.symm] at h
        obtain⟨CD,hCD⟩:∃ CD,first [raw done k n t l KS]=CD:=⟨_,rfl⟩
        have hcall:Calls Tryz.prog 93 #[.map (some bm),.slice (some ⟨wr.heap.size,0,none⟩) 1 1] W0 (GivesC CD W0):=hCD▸first_any [raw done k n t l KS] bm _ 1 1 W0 (HM.out.call (below_next h3.low hBW)) hone.pd (fun p hp=>by simp at hp;subst hp;exact⟨by simp only[raw,Pl.re];omega,by simp only[raw,Pl.im];omega⟩) (by omega) rfl hkk.1 hkk.2;rw[hCD] at heq;have H3:=Lib.hid h3;have HBW:=Lib.hid hBW;have hBX:=h3.box;have hRX:=h3.res;have HBX:=Lib.hid (hBX.call hBW);have HRX:=Lib.hid (hRX.call hBW);clear h3 hcells hBW hone hCD hBX hRX;go_wp2_with (go_at_call 93;(with_reducible refine hcall.mono ?_);rintro e w2 ⟨rfl,hb2⟩;obtain⟨p0,p1,p2,p3,p4,p5,p6,p7,p8,pf⟩:=(HBX.out.call hb2).all;obtain⟨r0,r1,r2,r3,r4,r5,r6,r7,r8,rf⟩:=(HRX.out.call hb2).all);refine bodyPost_ret (v:=.agg #[.slice NA nl nc,.int .u8 (k:Int),.int .u64 (n:Int),.string t,.slice A l c,.int .u8 (CD:Int),.bool false,.slice KA3 kl3 kc3,.complex .f64 (fb (longK KS)) (fb l)]) (by simp[results,Tryz.results49,go_sem,r0,r1,r2,r3,r4,r5,r6,r7,r8]) rfl ?_;have hs0:=HBW.out.size;have hs2:=hb2.size;have hlw:=H3.out.low.size;refine⟨done,k,n,t,CD,false,KS,longK KS,l,NA,nl,nc,A,l,c,KA3,kl3,kc3,heq.out,rfl,?_,?_,?_⟩
        ·exact(H3.out.finish (below_next HBW.out hb2) (fun i hi=>by (repeat rw[Below.heap_setCell _ _ _ i (by simp;omega)])) (by simp)).1
        ·exact(H3.out.finish (below_next HBW.out hb2) (fun i hi=>by (repeat rw[Below.heap_setCell _ _ _ i (by simp;omega)])) (by simp)).2
        ·(repeat' refine Below.setCell ?_ (by simp<;>omega) _)
         exact below_next (below_next H3.out.low HBW.out) hb2
     ·have d24:((k:Int)==24)=false:=by rw[beq_eq_false_iff_ne];omega
      obtain⟨KA3,kl3,kc3,e1,e2,e3⟩:∃ a b c,a=KA∧b=kl∧c=kc:=⟨_,_,_,rfl,rfl,rfl⟩;subst e1 e2 e3;have HKE:planL ks=KS:=by have:=HKS2.out;rwa [if_neg k24] at this
      rw[HKE] at h2;have HP3:=Lib.hid h2.plain;clear h2 hBnd hkinds HKE k24;go_wp2;clear q0 q1 q2 q3 q4 q5 q6 q7 q8 qf hB hsz hws d24 hlp hkl hrl hj hlt HE;go_loopw [70] (fun i w3=>∃ (j:Nat),j≤kl3∧i=.int .i64 (j:Nat)∧P3 w w3 B done NA nl nc KS KA3 kl3 kc3 (longK (KS.take j)) k n t A l c) (fun i _=>kl3 - (intOf i).toNat)
      case atStart=>exact⟨0,Nat.zero_le _,rfl,by simpa [longK] using HP3.out⟩
      case round=>
       obtain⟨j,hj,rfl,h3⟩:=hrel;clear HP3;obtain⟨q0,q1,q2,q3,q4,q5,q6,q7,q8,qf⟩:=h3.box.all;have hB:=h3.hB;have hsz:=h3.sz;have hws:=h3.low.size;have HK3:Hid (kl3=KS.length):=Lib.hid h3.row.1;have hl2:l≤33554432:=by have:=HL.out;omega
       have hk3:kl3≤1099511627776:=by have:=HK3.out;omega
       by_cases hlt:j < kl3
       ·obtain⟨b,o,ns',k',n',t',code',bb',ks',re',im',NA',nl',nc',VA',vl',vc',KA',kl',kc',rfl,hbb,hx,⟨a0,a1,a2,a3,a4,a5,a6,a7,a8⟩,hN',_⟩:=Ps.at_ h3.row hlt;have hf:=fineL_at HFK.out hx;obtain⟨LP,hLP⟩:∃ LP,long (.mk ns' k' n' t' code' bb' ks' re' im')=LP:=⟨_,rfl⟩;obtain⟨LK,hLK⟩:∃ LK,longK (KS.take j)=LK:=⟨_,rfl⟩;have HT:Hid (longK (KS.take (j+1))=LK+LP):=Lib.hid (by rw[longK_take hx,hLP,hLK]);have hle:=longK_take_le KS (j+1);rw[HT.out] at hle;rw[hLK] at h3 q8;have hcall:∀ wx:World,Pd wx ns' NA' nl' nc'→Calls Tryz.prog 51 #[.agg #[.slice NA' nl' nc',.int .u8 (k':Int),.int .u64 (n':Int),.string t',.slice VA' vl' vc',.int .u8 (code':Int),.bool bb',.slice KA' kl' kc',.complex .f64 (fb re') (fb im')]] wx (GivesI LP wx):=fun wx h=>hLP▸long_any _ ns' ks' NA' nl' nc' k' n' t' VA' vl' vc' code' bb' KA' kl' kc' re' im' wx (Nat.le_refl _) hf h;have hadd:∀ wx:World,(binOp .add 71 (.complex .f64 (fb LK) (fb l)) (.complex .f64 (fb LP) 0)).run Tryz.prog wx=.ok (.complex .f64 (fb (LK+LP)) (fb l)) wx:=fun wx=>add_cplx LK l LP (by omega) (by omega) wx;have hBW:=(Below.refl wr.heap.size wr).alloc (Nat.le_refl _) (.cells #[.slice NA' nl' nc',.int .u8 (k':Int),.int .u64 (n':Int),.string t',.slice VA' vl' vc',.int .u8 (code':Int),.bool bb',.slice KA' kl' kc',.complex .f64 (fb re') (fb im')] 73);have hzz:=Bx.new wr (.slice NA' nl' nc') (.int .u8 (k':Int)) (.int .u64 (n':Int)) (.string t') (.slice VA' vl' vc') (.int .u8 (code':Int)) (.bool bb') (.slice KA' kl' kc') (.complex .f64 (fb re') (fb im'));obtain⟨W0,hWW⟩:∃ W0,wr.alloc (.cells #[.slice NA' nl' nc',.int .u8 (k':Int),.int .u64 (n':Int),.string t',.slice VA' vl' vc',.int .u8 (code':Int),.bool bb',.slice KA' kl' kc',.complex .f64 (fb re') (fb im')] 73)=W0:=⟨_,rfl⟩;rw[hWW] at hBW hzz;have hNW:Pd W0 ns' NA' nl' nc':=(hN'.keep fun i hi=>hBW.block i hi.2).mono fun i hi=>Nat.lt_of_lt_of_le hi.2 hBW.size;have hBX:=h3.box.call hBW;obtain⟨r0,r1,r2,r3,r4,r5,r6,r7,r8,rf⟩:=hBX.all;obtain⟨y0,y1,y2,y3,y4,y5,y6,y7,y8,_⟩:=hzz.all;have H3:=Lib.hid h3;have HB:=Lib.hid hBX;have HBW:=Lib.hid hBW;have HNW:=Lib.hid hNW;clear h3 hx hBX hBW hzz hN' hNW hf hLP hLK hbb;go_wp2_with fail;go_region_law (go_simp;go_at_call 51;(with_reducible refine(hcall W0.drew (HNW.out.call ((Below.refl _ _).drew))).mono ?_);rintro e w2 ⟨rfl,hb2⟩;have hb2w:=below_next ((Below.refl W0.heap.size W0).drew) hb2;have hb2':=below_next HBW.out hb2w;obtain⟨p0,p1,p2,p3,p4,p5,p6,p7,p8,pf⟩:=(HB.out.call hb2w).all)
        all_goals
         go_wp2;go_roundw
         case measure=>simp[intOf];omega
         case rel=>exact⟨j+1,by omega,by go_num,by rw[HT.out];exact H3.out.step hb2'⟩
       ·have HE2:Hid (KS.take j=KS):=Lib.hid (List.take_of_length_le (by have:=HK3.out;omega));rw[HE2.out] at h3 q8;have hcells:RepC wr (fun i=>w.heap.size+1+1+1≤i∧i < wr.heap.size) (raw done k n t l KS) [.slice NA nl nc,.int .u8 (k:Int),.int .u64 (n:Int),.string t,.slice A l c,.int .u8 0,.bool false,.slice KA3 kl3 kc3,.complex .f64 (fb (longK KS)) (fb l)]:=repC_of (h3.names.mono fun i hi=>⟨hi.1,by omega⟩) (h3.row.mono fun i hi=>⟨by omega,hi.2⟩);obtain⟨W0,hWW⟩:∃ W0,wr.alloc (.cells #[.slice NA nl nc,.int .u8 (k:Int),.int .u64 (n:Int),.string t,.slice A l c,.int .u8 0,.bool false,.slice KA3 kl3 kc3,.complex .f64 (fb (longK KS)) (fb l)] 73)=W0:=⟨_,rfl⟩;have hBW:Below wr.heap.size wr W0:=hWW▸(Below.refl wr.heap.size wr).alloc (Nat.le_refl _) _;have hone:Pn (w.heap.size+1+1+1) W0 [raw done k n t l KS] (some ⟨wr.heap.size,0,none⟩) 1 1:=by
         refine pn_one hcells hBW ⟨by omega,by rw[←hWW];simp⟩ fun j u hu=>?_;have h:=news9 wr (.slice NA nl nc) (.int .u8 (k:Int)) (.int .u64 (n:Int)) (.string t) (.slice A l c) (.int .u8 0) (.bool false) (.slice KA3 kl3 kc3) (.complex .f64 (fb (longK KS)) (fb l)) 73 _ rfl j u hu;rw[hWW] at h
         rwa [show (⟨wr.heap.size,0,none⟩:Addr).add j=⟨wr.heap.size,j,none⟩ by simp[Addr.add];intro h;exact h.symm] at h
        obtain⟨CD,hCD⟩:∃ CD,first [raw done k n t l KS]=CD:=⟨_,rfl⟩
        have hcall:Calls Tryz.prog 93 #[.map (some bm),.slice (some ⟨wr.heap.size,0,none⟩) 1 1] W0 (GivesC CD W0):=hCD▸first_any [raw done k n t l KS] bm _ 1 1 W0 (HM.out.call (below_next h3.low hBW)) hone.pd (fun p hp=>by simp at hp;subst hp;exact⟨by simp only[raw,Pl.re];omega,by simp only[raw,Pl.im];omega⟩) (by omega) rfl hkk.1 hkk.2;rw[hCD] at heq;have H3:=Lib.hid h3;have HBW:=Lib.hid hBW;have hBX:=h3.box;have hRX:=h3.res;have HBX:=Lib.hid (hBX.call hBW);have HRX:=Lib.hid (hRX.call hBW);clear h3 hcells hBW hone hCD hBX hRX;go_wp2_with (go_at_call 93;(with_reducible refine hcall.mono ?_);rintro e w2 ⟨rfl,hb2⟩;obtain⟨p0,p1,p2,p3,p4,p5,p6,p7,p8,pf⟩:=(HBX.out.call hb2).all;obtain⟨r0,r1,r2,r3,r4,r5,r6,r7,r8,rf⟩:=(HRX.out.call hb2).all);refine bodyPost_ret (v:=.agg #[.slice NA nl nc,.int .u8 (k:Int),.int .u64 (n:Int),.string t,.slice A l c,.int .u8 (CD:Int),.bool false,.slice KA3 kl3 kc3,.complex .f64 (fb (longK KS)) (fb l)]) (by simp[results,Tryz.results49,go_sem,r0,r1,r2,r3,r4,r5,r6,r7,r8]) rfl ?_;have hs0:=HBW.out.size;have hs2:=hb2.size;have hlw:=H3.out.low.size;refine⟨done,k,n,t,CD,false,KS,longK KS,l,NA,nl,nc,A,l,c,KA3,kl3,kc3,heq.out,rfl,?_,?_,?_⟩
        ·exact(H3.out.finish (below_next HBW.out hb2) (fun i hi=>by (repeat rw[Below.heap_setCell _ _ _ i (by simp;omega)])) (by simp)).1
        ·exact(H3.out.finish (below_next HBW.out hb2) (fun i hi=>by (repeat rw[Below.heap_setCell _ _ _ i (by simp;omega)])) (by simp)).2
        ·(repeat' refine Below.setCell ?_ (by simp<;>omega) _)
         exact below_next (below_next H3.out.low HBW.out) hb2
theorem plan_nullV:PlanV nullV:=fun _ _ A l c bm w hM hK=>
 plan_step 1 0 ⟨#[]⟩ [] (fun h=>by rw[show V.mk 1 0 ⟨#[]⟩ []=nullV from rfl,plan_null] at h;cases h) (fun v hv=>by have:=bulk_pos v;simp[bulk,bulkL,ByteArray.size] at hv;omega) (by decide) (by decide) (by omega) (by omega) A l c bm w hM hK
theorem plan_all (N:Nat):∀ v:V,bulk v≤N→mayB v=true→bulk v≤33554432→PlanV v:=by
 induction N with
 | zero=>intro v hv;have:=bulk_pos v;omega
 | succ N ih=>
  intro v hv hm hb hk hn A l c bm w hM hK;obtain⟨k,n,t,ks⟩:=v;exact plan_step k n t ks (fun _=>plan_nullV) (fun u hu hmu=>ih u (by omega) hmu (by omega)) hm hb hk hn A l c bm w hM hK
theorem plan_any (v:V)(hm:mayB v=true)(hb:bulk v≤33554432):PlanV v:=plan_all _ v (Nat.le_refl _) hm hb
end Go.Proofs.YtcilmmdmkpnppaaGreatDoor.Enc
end
section
namespace Go.Proofs.YtcilmmdmkpnppaaGreatDoor.Enc
set_option maxRecDepth 100000
open Go.RowKit Utf Val V
mutual
def mass:Pl→Nat
 | .mk ns _ _ t _ _ ks _ _=>massN ns+33+t.size+massL ks
def massN:List Pl→Nat
 | []=>0
 | p::r=>1+mass p+massN r
def massL:List Pl→Nat
 | []=>0
 | p::r=>mass p+massL r
end
theorem dlay_len (k n:Nat)(t:ByteArray)(c re im:Nat)(ks:List Nat):(dlay k n t c re im ks).length≤32+t.size+ks.length:=by
 have:=wid_le c;unfold dlay
 split
 ·simp
 ·split
  ·rw[be_length];omega
  ·split
   ·rw[tb_length];omega
   ·split
    ·rw[List.length_append,be_length,tb_length];omega
    ·rw[List.length_append,List.length_append,be_length,be_length];omega
mutual
theorem lay_mass:∀ p:Pl,(lay p).length≤mass p
 | .mk ns k n t c b ks re im=>by
  have h1:=dlay_len k n t c re im (layK ks);have h2:=layK_mass ks;have h3:=layN_mass ns;simp only[lay,mass]
  split
  ·omega
  ·rw[List.length_append,List.length_cons];omega
theorem layN_mass:∀ l:List Pl,(layN l).length≤massN l
 | []=>by simp[layN]
 | p::r=>by
  have h1:=lay_mass p;have h2:=layN_mass r;simp only[layN,massN,List.length_cons,List.length_append];omega
theorem layK_mass:∀ l:List Pl,(layK l).length≤massL l
 | []=>by simp[layK]
 | p::r=>by
  have h1:=lay_mass p;have h2:=layK_mass r;simp only[layK,massL,List.length_append];omega
end
theorem mass_setc (c:Nat)(b:Bool)(p:Pl):mass (setc c b p)=mass p:=by cases p;rfl
theorem massL_setc (c:Nat)(b:Bool):∀ l:List Pl,massL (l.map (setc c b))=massL l
 | []=>rfl
 | p::r=>by simp only[List.map_cons,massL,mass_setc,massL_setc c b r]
theorem massN_append:∀ a b:List Pl,massN (a++b)=massN a+massN b
 | [],b=>by simp[massN]
 | p::a,b=>by simp only[List.cons_append,massN,massN_append a b];omega
theorem mass_addN (ds:List Pl)(p:Pl):mass (addN ds p)=massN ds+mass p:=by
 cases p;simp only[addN,mass,massN_append];omega
theorem mass_alike (l:List Pl):massL (alikeP l)≤massL l+33:=by
 cases l with
 | nil=>decide
 | cons p r=>simp only[alikeP,massL,mass_setc,massL_setc];omega
mutual
theorem mass_plan:∀ v:V,mayB v=true→mass (plan v)≤100 * bulk v
 | .mk k n t ks,h=>by
  by_cases hk:k=25
  ·subst hk;obtain⟨x,y,rfl,_,hx,hy⟩:=may_desc h;have h1:=mass_planL [x,y] (may_kids h);simp only[planL,massL,bulkL] at h1;rw[plan_desc,mass_addN];simp only[massN,bulk,bulkL];omega
  ·have h1:=mass_planL ks (may_kids h);have h2:=mass_alike (planL ks);rw[plan_core n t ks hk];simp only[fin,mass,massN,bulk]
   split<;>omega
theorem mass_planL:∀ l:List V,mayL l=true→massL (planL l)≤100 * bulkL l
 | [],_=>by simp[planL,bulkL,massL]
 | v::r,h=>by
  simp only[mayL,Bool.and_eq_true] at h;have h1:=mass_plan v h.1;have h2:=mass_planL r h.2;simp only[planL,massL,bulkL];omega
end
theorem lay_bulk (v:V)(h:mayB v=true):(lay (plan v)).length≤100 * bulk v:=Nat.le_trans (lay_mass _) (mass_plan v h)
theorem ok_may {v:V}(h:okB v=true):mayB v=true:=by
 simp only[okB,Bool.and_eq_true] at h
 first | exact h.2 | exact h.1.2 | exact h.1.1 | exact h.1
def GivesV (v:V)(w:World)(e:Ending)(w':World):Prop:=∃ A m c,e=.returned (.tuple #[.slice A m c,.int .i64 0])∧Utf.Own .u8 256 5 w' w.heap.size A m c (lay (plan v))∧Below w.heap.size w w'
def GivesNone (w:World)(e:Ending)(w':World):Prop:=e=.returned (.tuple #[.slice none 0 0,.int .i64 1])∧Below w.heap.size w w'
theorem encv_no (k n:Nat)(t:ByteArray)(ks:List V)(A:Option Addr)(l c:Nat)(w:World)(hok:okB (.mk k n t ks)=false)(hb:bulk (.mk k n t ks)≤33554432)(hn:n < 18446744073709551616)(hK:Kd w ks A l c)(hTab:Tab w) :
  Calls Tryz.prog 22 #[.agg #[.int .u8 (k:Int),.int .u64 (n:Int),.string t,.slice A l c]] w (GivesNone w):=by
 have HR:=fun wx (h:Below w.heap.size w wx)=>vright_any k n t ks A l c wx (by simp only[bulk] at hb;omega) (by simp only[bulk] at hb;omega) hn (hK.call h) (hTab.call h);rw[hok] at HR;have hB:Below w.heap.size w (w.alloc (.cells #[.int .u8 (k:Int),.int .u64 (n:Int),.string t,.slice A l c] 44)):=(Below.refl _ _).alloc (Nat.le_refl _) _;obtain⟨z0,z1,z2,z3,_⟩:=(Box.new w (.int .u8 (k:Int)) (.int .u64 (n:Int)) (.string t) (.slice A l c)).all;go_enter Tryz.func22,Tryz.ntmps22;go_wp2_with (go_at_call 23;(with_reducible refine(HR _ hB).mono ?_);rintro e w1 ⟨rfl,hb1⟩);go_ret2;exact⟨rfl,below_next hB hb1⟩
theorem pd_lo {w:World}{l:List Pl}{A:Option Addr}{n c:Nat}(h:Pd w l A n c)(o:Obj):Ps (w.alloc o) (Lo w.heap.size) l A n c:=Ps.keep h fun _ hi=>Below.heap_alloc _ _ _ hi
theorem make_bytes (LG:Nat)(h:LG≤1099511627776):∃ CC:Array Value,(∀ wx:World,(Instr.makeSlice 23 (.int .i64 0) (.int .i64 (LG:Int))).run Tryz.prog wx=.ok (.slice (some ⟨wx.heap.size,0,none⟩) 0 LG) (wx.alloc (.cells CC 5))) ∧
  (∀ (wx:World) (base:Nat),base≤wx.heap.size→Utf.Own .u8 256 5 (wx.alloc (.cells CC 5)) base (some ⟨wx.heap.size,0,none⟩) 0 LG []):=by
 obtain⟨i0,hi,hz0,hz1,hz2⟩:=info_parts infoU8;refine⟨madeCells (Value.int .u8 0).cells (LG * i0.size),fun wx=>?_,fun wx base hb=>⟨fun _ h=>(by cases h),World.ownsRow_made wx _ LG hb (by unfold maxLen;omega) ?_,Typ.new _ _ _ _ _ (made_cells rfl ⟨0,by omega,rfl⟩ _)⟩⟩
 ·have:=run_make (P:=Tryz.prog) wx 23 5 i0 (.int .u8 0) Tryz.underlying23 hi hz0 .i64 .i64 0 (LG:Int) (by omega) (by omega) (by rw[hz2];omega) (by omega)
  simpa using this
 ·rw[size_madeCells,hz1]
theorem fill9 {w3:World}{g:Nat}{z0 z1 z2 z3 z4 z5 z6 z7 z8:Value}(hz:Bx w3 g z0 z1 z2 z3 z4 z5 z6 z7 z8)(x0 x1 x2 x3 x4 x5 x6 x7 x8:Value){W4:World}
  (hW:(((((((((w3.setCell ⟨g,0,none⟩ x0).setCell ⟨g,1,none⟩ x1).setCell ⟨g,2,none⟩ x2).setCell ⟨g,3,none⟩ x3).setCell ⟨g,4,none⟩ x4).setCell ⟨g,5,none⟩ x5).setCell ⟨g,6,none⟩ x6).setCell ⟨g,7,none⟩ x7).setCell ⟨g,8,none⟩ x8)=W4) :
  Bx W4 g x0 x1 x2 x3 x4 x5 x6 x7 x8∧(∀ i,i≠g→W4.heap[i]? = w3.heap[i]?)∧W4.heap.size=w3.heap.size∧∀ B w,Below B w w3→B≤g→Below B w W4:=by
 subst hW;refine⟨?_,fun i hi=>?_,by simp,fun B w hb hg=>?_⟩
 ·unfold Bx at hz ⊢;simp[World.setCell,Array.getElem?_modify,hz]
 ·(repeat rw[Below.heap_setCell _ _ _ i hi])
 ·exact((((((((hb.setCell hg _).setCell hg _).setCell hg _).setCell hg _).setCell hg _).setCell hg _).setCell hg _).setCell hg _).setCell hg _
set_option maxHeartbeats 1000000 in
theorem encv_yes (k n:Nat)(t:ByteArray)(ks:List V)(A:Option Addr)(l c:Nat)(w:World)(hok:okB (.mk k n t ks)=true)(hb:bulk (.mk k n t ks)≤33554432)(hk:k < 256)(hn:n < 18446744073709551616)(hK:Kd w ks A l c)(hTab:Tab w) :
  Calls Tryz.prog 22 #[.agg #[.int .u8 (k:Int),.int .u64 (n:Int),.string t,.slice A l c]] w (GivesV (.mk k n t ks) w):=by
 have HR:=fun wx (h:Below w.heap.size w wx)=>vright_any k n t ks A l c wx (by simp only[bulk] at hb;omega) (by simp only[bulk] at hb;omega) hn (hK.call h) (hTab.call h);rw[hok] at HR;have hm:=ok_may hok;have HP:∀ bm wx,CM wx bm→Below w.heap.size w wx→Calls Tryz.prog 49 #[.map (some bm),.agg #[.int .u8 (k:Int),.int .u64 (n:Int),.string t,.slice A l c]] wx (GivesP (plan (.mk k n t ks)) wx):=fun bm wx hM h=>plan_any (.mk k n t ks) hm hb hk hn A l c bm wx hM (hK.call h);have hf:=fine_plan 1099511627776 (.mk k n t ks) hm (by omega);have hlb:=lay_bulk (.mk k n t ks) hm;have hcap:=Nat.le_trans (long_cap _) (cap_plan (.mk k n t ks) hm);have hB:Below w.heap.size w (w.alloc (.cells #[.int .u8 (k:Int),.int .u64 (n:Int),.string t,.slice A l c] 44)):=(Below.refl _ _).alloc (Nat.le_refl _) _;have hbx:=Box.new w (.int .u8 (k:Int)) (.int .u64 (n:Int)) (.string t) (.slice A l c);obtain⟨z0,z1,z2,z3,_⟩:=hbx.all;have hsc:=store_cplx;go_enter Tryz.func22,Tryz.ntmps22;go_wp2_with (go_at_call 23;(with_reducible refine(HR _ hB).mono ?_);rintro e w1 ⟨rfl,hb1⟩;have hB1:=below_next hB hb1;have hbx1:=hbx.call hb1;obtain⟨y0,y1,y2,y3,_⟩:=hbx1.all);have HB1:=Lib.hid hB1;obtain⟨u0,u1,u2,u3,_⟩:=(hbx1.alloc (.cells #[.slice none 0 0,.int .u8 0,.int .u64 0,.string ⟨#[]⟩,.slice none 0 0,.int .u8 0,.bool false,.slice none 0 0,.complex .f64 0 0] 73)).all;go_region_law (first
  | (go_simp;go_at_call 48;(with_reducible refine(allCodes_any _).mono ?_);rintro e w2 ⟨bm,rfl,hM2,hb2⟩;have hb2d:=below_next ((Below.refl w1.heap.size w1).drew) hb2;have hB2:=below_next HB1.out hb2d;obtain⟨x0,x1,x2,x3,_⟩:=(hbx1.call hb2d).all;obtain⟨v0,v1,v2,v3,_⟩:=((hbx1.call hb2d).alloc (.cells #[.slice none 0 0,.int .u8 0,.int .u64 0,.string ⟨#[]⟩,.slice none 0 0,.int .u8 0,.bool false,.slice none 0 0,.complex .f64 0 0] 73)).all)
  | (go_simp;go_at_call 48;(with_reducible refine(allCodes_any _).mono ?_);rintro e w2 ⟨bm,rfl,hM2,hb2⟩;have hb2d:=below_next (((Below.refl w1.heap.size w1).drew).alloc (Nat.le_refl _) (.cells #[.slice none 0 0,.int .u8 0,.int .u64 0,.string ⟨#[]⟩,.slice none 0 0,.int .u8 0,.bool false,.slice none 0 0,.complex .f64 0 0] 73)) hb2;have hB2:=below_next HB1.out hb2d;have hz2:=(show Bx w2 w1.heap.size _ _ _ _ _ _ _ _ _ from (Bx.new w1.drew (.slice none 0 0) (.int .u8 0) (.int .u64 0) (.string ⟨#[]⟩) (.slice none 0 0) (.int .u8 0) (.bool false) (.slice none 0 0) (.complex .f64 0 0)).call hb2);obtain⟨x0,x1,x2,x3,_⟩:=(hbx1.call hb2d).all)
  | (go_simp;go_at_call 49;(with_reducible refine(HP bm _ hM2 hB2).mono ?_);rintro e w3 ⟨ns',k',n',t',code',bb',ks',re',im',NA',nl',nc',VA',vl',vc',KA',kl',kc',hpl,rfl,hpn,hpk,hb3⟩;have hB3:=below_next hB2 hb3;have hz3:=hz2.call hb3;obtain⟨q0,q1,q2,q3,q4,q5,q6,q7,q8,qf⟩:=hz3.all)
  | (go_simp;go_at_call 49;(with_reducible refine(HP bm _ hM2 hB2).mono ?_);rintro e w3 ⟨ns',k',n',t',code',bb',ks',re',im',NA',nl',nc',VA',vl',vc',KA',kl',kc',hpl,rfl,hpn,hpk,hb3⟩;have hB3:=below_next hB2 hb3)
  | (go_simp;go_at_call 49;(with_reducible refine(HP bm _ (hM2.call ((Below.refl _ _).alloc (Nat.le_refl _) (.cells #[.slice none 0 0,.int .u8 0,.int .u64 0,.string ⟨#[]⟩,.slice none 0 0,.int .u8 0,.bool false,.slice none 0 0,.complex .f64 0 0] 73))) (hB2.alloc hB2.size (.cells #[.slice none 0 0,.int .u8 0,.int .u64 0,.string ⟨#[]⟩,.slice none 0 0,.int .u8 0,.bool false,.slice none 0 0,.complex .f64 0 0] 73))).mono ?_);rintro e w3 ⟨ns',k',n',t',code',bb',ks',re',im',NA',nl',nc',VA',vl',vc',KA',kl',kc',hpl,rfl,hpn,hpk,hb3⟩;have hB3:=below_next (hB2.alloc hB2.size (.cells #[.slice none 0 0,.int .u8 0,.int .u64 0,.string ⟨#[]⟩,.slice none 0 0,.int .u8 0,.bool false,.slice none 0 0,.complex .f64 0 0] 73)) hb3;have hz2:=(Bx.new w2 (.slice none 0 0) (.int .u8 0) (.int .u64 0) (.string ⟨#[]⟩) (.slice none 0 0) (.int .u8 0) (.bool false) (.slice none 0 0) (.complex .f64 0 0));have hz3:=hz2.call hb3;obtain⟨q0,q1,q2,q3,q4,q5,q6,q7,q8,qf⟩:=hz3.all))
 all_goals
  first
   | (have hz4:Bx w3 w2.heap.size _ _ _ _ _ _ _ _ _:=hz3;generalize hW4:World.setCell _ _ _=W4;obtain⟨hX,hk4,hs4,hB4⟩:=fill9 hz4 (.slice NA' nl' nc') (.int .u8 (k':Int)) (.int .u64 (n':Int)) (.string t') (.slice VA' vl' vc') (.int .u8 (code':Int)) (.bool bb') (.slice KA' kl' kc') (.complex .f64 (fb re') (fb im')) hW4;have hB4:=hB4 _ _ hB3 (by first | exact hB2.size | exact HB1.out.size);have hlt:w2.heap.size < w2.heap.size+1:=(by first | exact Nat.lt_succ_self _ | exact Nat.lt_succ_of_lt hz2.lt);have hn:Pd W4 ns' NA' nl' nc':=(Ps.keep hpn fun i hi=>hk4 i (by first | (have:=hi.1;simp at this;omega) | (have:=hi.1;have:=hz2.lt;omega))).mono fun i hi=>(by rw[hs4];exact hi.2);have hkk:Pd W4 ks' KA' kl' kc':=(Ps.keep hpk fun i hi=>hk4 i (by first | (have:=hi.1;simp at this;omega) | (have:=hi.1;have:=hz2.lt;omega))).mono fun i hi=>(by rw[hs4];exact hi.2);clear hlt;generalize w2.heap.size=g4 at hX ⊢)
   | (have hz4:Bx w3 w1.heap.size _ _ _ _ _ _ _ _ _:=hz3;generalize hW4:World.setCell _ _ _=W4;obtain⟨hX,hk4,hs4,hB4⟩:=fill9 hz4 (.slice NA' nl' nc') (.int .u8 (k':Int)) (.int .u64 (n':Int)) (.string t') (.slice VA' vl' vc') (.int .u8 (code':Int)) (.bool bb') (.slice KA' kl' kc') (.complex .f64 (fb re') (fb im')) hW4;have hB4:=hB4 _ _ hB3 (by first | exact hB2.size | exact HB1.out.size);have hlt:w1.heap.size < w2.heap.size+1:=(by first | exact Nat.lt_succ_self _ | exact Nat.lt_succ_of_lt hz2.lt);have hn:Pd W4 ns' NA' nl' nc':=(Ps.keep hpn fun i hi=>hk4 i (by first | (have:=hi.1;simp at this;omega) | (have:=hi.1;have:=hz2.lt;omega))).mono fun i hi=>(by rw[hs4];exact hi.2);have hkk:Pd W4 ks' KA' kl' kc':=(Ps.keep hpk fun i hi=>hk4 i (by first | (have:=hi.1;simp at this;omega) | (have:=hi.1;have:=hz2.lt;omega))).mono fun i hi=>(by rw[hs4];exact hi.2);clear hlt;generalize w1.heap.size=g4 at hX ⊢)
   | (generalize hW4:w3.alloc _=W4;have hX:Bx W4 w3.heap.size (.slice NA' nl' nc') (.int .u8 (k':Int)) (.int .u64 (n':Int)) (.string t') (.slice VA' vl' vc') (.int .u8 (code':Int)) (.bool bb') (.slice KA' kl' kc') (.complex .f64 (fb re') (fb im')):=(by subst hW4;exact Bx.new w3 _ _ _ _ _ _ _ _ _);have hB4:Below w.heap.size w W4:=(by subst hW4;exact hB3.alloc hB3.size _);have hn:Pd W4 ns' NA' nl' nc':=(by subst hW4;exact hpn.pd.alloc _);have hkk:Pd W4 ks' KA' kl' kc':=(by subst hW4;exact hpk.pd.alloc _);generalize w3.heap.size=g4 at hX ⊢)
 all_goals
  rw[hpl] at hf hlb hcap;have HPL:=Lib.hid hpl;clear hb2 hb2d hB2 hb3 hB3 hpn hpk x0 x1 x2 x3 y0 y1 y2 y3 u0 u1 u2 u3 hbx1 HP HR z0 z1 z2 z3 hbx hpl hM2;obtain⟨q0,q1,q2,q3,q4,q5,q6,q7,q8,qf⟩:=hX.all;obtain⟨r0,r1,r2,r3,r4,r5,r6,r7,r8,rf⟩:=(hX.call ((Below.refl _ _).drew)).all;obtain⟨LG,hLG⟩:∃ LG,long (.mk ns' k' n' t' code' bb' ks' re' im')=LG:=⟨_,rfl⟩;obtain⟨LY,hLY⟩:∃ LY,lay (.mk ns' k' n' t' code' bb' ks' re' im')=LY:=⟨_,rfl⟩;have hlong:∀ wx:World,Pd wx ns' NA' nl' nc'→Calls Tryz.prog 51 #[.agg #[.slice NA' nl' nc',.int .u8 (k':Int),.int .u64 (n':Int),.string t',.slice VA' vl' vc',.int .u8 (code':Int),.bool bb',.slice KA' kl' kc',.complex .f64 (fb re') (fb im')]] wx (GivesI LG wx):=fun wx h=>hLG▸long_any _ ns' ks' NA' nl' nc' k' n' t' VA' vl' vc' code' bb' KA' kl' kc' re' im' wx (Nat.le_refl _) hf h;rw[hLG] at hcap;have hlay:∀ (base:Nat) (A:Option Addr) (c:Nat) (wx:World),Ps wx (Lo base) ns' NA' nl' nc'→Ps wx (Lo base) ks' KA' kl' kc'→Utf.Own .u8 256 5 wx base A 0 c []→base≤wx.heap.size→Calls Tryz.prog 50 #[.agg #[.slice NA' nl' nc',.int .u8 (k':Int),.int .u64 (n':Int),.string t',.slice VA' vl' vc',.int .u8 (code':Int),.bool bb',.slice KA' kl' kc',.complex .f64 (fb re') (fb im')],.slice A 0 c] wx (GivesL2 base LY wx):=fun base A c wx h1 h2 h3 h4=>hLY▸lay2_any _ ns' ks' NA' nl' nc' k' n' t' VA' vl' vc' code' bb' KA' kl' kc' re' im' base A 0 c [] wx (Nat.le_refl _) hf h1 h2 h3 h4 (by omega);rw[hLY] at hlb;have HPL2:Hid (lay (plan (.mk k n t ks))=LY):=Lib.hid (by rw[HPL.out,hLY]);obtain⟨CC,hmk,hoc⟩:=make_bytes LG (by omega);have HX:=Lib.hid hX;have HB4:=Lib.hid hB4;have HN4:=Lib.hid hn;have HK4:=Lib.hid hkk;clear hX hB4 hn hkk hLG hLY hf HPL;go_wp2_with fail;go_region_law (first
   | (go_simp;go_at_call 51;(with_reducible refine(hlong W4.drew (HN4.out.call ((Below.refl _ _).drew))).mono ?_);rintro e w5 ⟨rfl,hb5⟩;have hb5d:=below_next ((Below.refl W4.heap.size W4).drew) hb5;have hB5:=below_next HB4.out hb5d;obtain⟨p0,p1,p2,p3,p4,p5,p6,p7,p8,pf⟩:=(HX.out.call hb5d).all;obtain⟨s0,s1,s2,s3,s4,s5,s6,s7,s8,sf⟩:=((HX.out.call hb5d).alloc (.cells CC 5)).all)
   | (go_simp;go_at_call 50;(with_reducible refine(hlay w5.heap.size _ LG (w5.alloc (.cells CC 5)) (pd_lo (HN4.out.call hb5d) _) (pd_lo (HK4.out.call hb5d) _) (hoc w5 _ (Nat.le_refl _)) (by simp)).mono ?_);rintro e w6 ⟨A6,m6,c6,rfl,ho6,hb6,_⟩))
  all_goals
   go_wp2;go_ret2;exact⟨A6,m6,c6,rfl,by rw[HPL2.out];exact ho6.mono hB5.size,(hB5.alloc hB5.size _).trans (hb6.mono hB5.size)⟩
end Go.Proofs.YtcilmmdmkpnppaaGreatDoor.Enc
end
