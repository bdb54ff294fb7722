/- Contracts, each with its premises. -/
import Derived.Test.YtbbbanfggcediaaGreatDoorY06
import Derived.Test.YtbbbanfggcediaaGreatDoorY14
set_option maxRecDepth 100000
set_option maxHeartbeats 8000000
namespace Go.Proofs.YtbbbanfggcediaaGreatDoor
open _root_.Go.Proofs.Tryz
open Bool renaming and_eq_true→ycy
open Go.RowKit.Below renaming heap_setCell→ycx
open List renaming length_append→ycw,length_cons→ycz,take_of_length_le→ycB
open Nat renaming lt_of_lt_of_le→ycv,le_trans→ycA
namespace Enc
open Go.RowKit Utf Val V
theorem zoh {w:World}{ks:List V}{A:Oz}{l c:Nat}(h:Val.Kids false w (Lo w.heap.size) ks A l c){i:Nat}(hi:i < l):∃ b o k n t ks' A' l' c',A=some ⟨b,o,none⟩∧ks[i]? = some (.mk k n t ks') ∧
  (∀ wx:World,Below w.heap.size w wx→wx.cell? ⟨b,o+i * 4,none⟩=some (.int .u8 (k:Int))∧wx.cell? ⟨b,o+i * 4+1,none⟩=some (.int .u64 (n:Int))∧wx.cell? ⟨b,o+i * 4+2,none⟩=some (.string t)∧wx.cell? ⟨b,o+i * 4+3,none⟩=some (.slice A' l' c')) ∧
  k < 256∧n < 18446744073709551616∧Val.Kids false w (Lo w.heap.size) ks' A' l' c':=by
 obtain⟨b,o,k,n,t,ks',A',l',c',e,hP,hx,h0,h1,h2,h3,hk,hn,hK⟩:=h.at_ hi;exact⟨b,o,k,n,t,ks',A',l',c',e,hx,fun wx hb=>⟨(hb.cell (p:=⟨b,o+i * 4,none⟩) hP).trans h0,(hb.cell (p:=⟨b,o+i * 4+1,none⟩) hP).trans h1,(hb.cell (p:=⟨b,o+i * 4+2,none⟩) hP).trans h2,(hb.cell (p:=⟨b,o+i * 4+3,none⟩) hP).trans h3⟩,hk,hn,hK⟩
theorem zja (k0 n0:Nat)(t0:ByteArray)(ks0:List V)(HN:(plan (.mk k0 n0 t0 ks0)).kind=24→ziS za3)(IH:∀ v,bulk v < bulk (.mk k0 n0 t0 ks0)→mayB v=true→ziS v)(qO:mayB (.mk k0 n0 t0 ks0)=true)(Kj:bulk (.mk k0 n0 t0 ks0)≤33554432)(kB:k0 < 256)(bq:n0 < 18446744073709551616)
  (A0:Oz) (l0 c0 bm:Nat) (w:World) (hM:CM w bm) (kO:Kd w ks0 A0 l0 c0):Calls prog 53 #[.map (some bm),.agg #[.int .u8 (k0:Int),.int .u64 (n0:Int),.string t0,.slice A0 l0 c0]] w (zaT (plan (.mk k0 n0 t0 ks0)) w):=by
 have vY:=zbm;have BZ:=zaa IH;clear IH;have hP0:P1 w (((w.alloc (.cells #[.int .u8 (k0:Int),.int .u64 (n0:Int),.string t0,.slice A0 l0 c0] 43)).alloc (.cells #[.slice none 0 0,.int .u8 0,.int .u64 0,.string ⟨#[]⟩,.slice none 0 0,.int .u8 0,.bool false,.slice none 0 0,.complex .f64 0 0] 88)).alloc (.cells #[.slice none 0 0,.int .u8 (k0:Int),.int .u64 (n0:Int),.string t0,.slice A0 l0 c0,.int .u8 0,.bool false,.slice none 0 0,.complex .f64 0 0] 88)) (.mk k0 n0 t0 ks0) none 0 0 [] [] k0 n0 t0 ks0 A0 l0 c0:=by
  refine⟨(zkI _).symm,qO,by simp,⟨kB,bq⟩,kO,?_,?_,PR.nil _ _,(((za _ _)).alloc (by simp) _).alloc (by simp;omega) _,by simp⟩
  ·have:=Bx.new ((w.alloc (.cells #[.int .u8 (k0:Int),.int .u64 (n0:Int),.string t0,.slice A0 l0 c0] 43)).alloc (.cells #[.slice none 0 0,.int .u8 0,.int .u64 0,.string ⟨#[]⟩,.slice none 0 0,.int .u8 0,.bool false,.slice none 0 0,.complex .f64 0 0] 88)) (.slice none 0 0) (.int .u8 (k0:Int)) (.int .u64 (n0:Int)) (.string t0) (.slice A0 l0 c0) (.int .u8 0) (.bool false) (.slice none 0 0) (.complex .f64 0 0)
   simpa using this
  ·have:=(Bx.new (w.alloc (.cells #[.int .u8 (k0:Int),.int .u64 (n0:Int),.string t0,.slice A0 l0 c0] 43)) (.slice none 0 0) (.int .u8 0) (.int .u64 0) (.string ⟨#[]⟩) (.slice none 0 0) (.int .u8 0) (.bool false) (.slice none 0 0) (.complex .f64 0 0)).alloc (.cells #[.slice none 0 0,.int .u8 (k0:Int),.int .u64 (n0:Int),.string t0,.slice A0 l0 c0,.int .u8 0,.bool false,.slice none 0 0,.complex .f64 0 0] 88)
   simpa using this
 go_enter func53,ntmps53;go_wp2;go_loopg [15] (bulk (.mk k0 n0 t0 ks0)) (fun g _ wr=>∃ NA nl nc done xs k n t ks A l c,g=bulk (.mk k n t ks)∧P1 w wr (.mk k0 n0 t0 ks0) NA nl nc done xs k n t ks A l c)
 case atStart=>exact⟨_,_,_,_,_,_,_,_,_,_,_,_,rfl,hP0⟩
 case round=>
  obtain⟨NA,nl,nc,done,xs,k,n,t,ks,A,l,c,hg,hP⟩:=hrel;clear hP0;obtain⟨q0,q1,q2,q3,q4,q5,q6,q7,q8,qf⟩:=hP.box.all;by_cases hk:k=25
  ·subst hk;obtain⟨x,y,rfl,Vh,Vd,hmy⟩:=zaS hP.may;obtain rfl:l=2:=hP.kd.1;have kW:=hP.blk;have JI:=hP.row.len;obtain⟨b,o,k1,n1,t1,ks1,A1,l1,c1,rfl,GJ,hx,gF,Gm,kK⟩:=zoh hP.kd (i:=0) (by omega);obtain⟨b',o',k2,n2,t2,ks2,A2,l2,c2,e2,GQ,hy,gR,Kk,kE⟩:=zoh hP.kd (i:=1) (by omega);injection e2 with e2
   injection e2 with e2 e3
   subst e2 e3;simp only[List.getElem?_cons_zero,List.getElem?_cons_succ,Option.some.injEq] at GJ GQ;subst GJ GQ;rw[Nat.zero_mul,Nat.add_zero] at hx;rw[Nat.one_mul] at hy;have q1:wr.cell? ⟨w.heap.size+1+1,1,none⟩=some (.int .u8 25):=q1;have Hx:∀ wx:World,Below w.heap.size w wx→Calls prog 53 #[.map (some bm),.agg #[.int .u8 (k1:Int),.int .u64 (n1:Int),.string t1,.slice A1 l1 c1]] wx (zaT (plan (.mk k1 n1 t1 ks1)) wx):=fun wx hb=>
    BZ.out (.mk k1 n1 t1 ks1) (by simp only[bulk,zai] at kW ⊢;omega) Vd gF Gm A1 l1 c1 bm wx (hM.call hb) (znz kK hb)
   have yW:nl≤33554432:=by omega
   have ka:=hP.row.blk;have Jr:∀ r,(Value.slice NA nl nc).ownBlock=some r→w.heap.size+1+1 < r:=fun r e=>by have:=ka r e;omega
   have Hu:=hP.sz;have Qr:=hP.low.size;have HP:=zaa hP;have HB:=zaa hP.box;have HL:=zaa hP.low;have HR:=zaa hP.row;obtain⟨d0,d1,d2,d3⟩:=hx wr.drew hP.low.drew;obtain⟨i0,hi,gE,Hn,gb⟩:=info_parts ztZ;have HX:=zaa hx;have HY:=zaa hy;have HG:=zaa hg;clear hP hx hy hg kW Vd hmy Vh;go_wp2_with fail;go_region_law (first
    | (refine step_append_lies _ rfl _ _ 85 rfl (w.heap.size+1+1+1) 88 i0 _ 9 128 underlying85 hi gE Hn gb rfl (by omega) _ _ _ rfl (by exact(jd.own.alloc _)) ⟨w1.heap.size,0,none⟩ 1 1 [.slice NA' nl' nc',.int .u8 (k':Int),.int .u64 (n':Int),.string t',.slice VA' vl' vc',.int .u8 (code':Int),.bool bb',.slice KA' kl' kc',.complex .f64 (fb re') (fb im')] rfl rfl (by exact news9 _ _ _ _ _ _ _ _ _ _ _ _ (by simp)) (fun u hu=>(by simp at hu;rcases hu with rfl | rfl | rfl | rfl | rfl | rfl | rfl | rfl | rfl<;>rfl)) (by omega) (by unfold maxLen;omega) (by omega) (by simp;omega) _ rfl ?_;intro g9 cap9 w9 Hb Hd Hv _;have yr:=((HB.out.call Kq).alloc _).grown Hd Jr;clear q0 q1 q2 q3 q4 q5 q6 q7 q8 qf;obtain⟨q0,q1,q2,q3,q4,q5,q6,q7,q8,qf⟩:=yr.all;have UG:Below w.heap.size w w9:=((zad HL.out Kq).alloc (by omega) (.cells #[.slice NA' nl' nc',.int .u8 (k':Int),.int .u64 (n':Int),.string t',.slice VA' vl' vc',.int .u8 (code':Int),.bool bb',.slice KA' kl' kc',.complex .f64 (fb re') (fb im')] 88)).grown Hd (by simp;omega) (fun r e=>by have:=ka r e;omega);obtain⟨e0,e1,e2,e3⟩:=HY.out _ (UG.setCell (p:=⟨w.heap.size+1+1,0,none⟩) (by simp;omega) (.slice (some ⟨g9,0,none⟩) (nl+1) cap9)))
    | (go_simp;go_at_call 53;(with_reducible refine(Hx wr.drew HL.out.drew).mono ?_);rintro e w1 ⟨ns',k',n',t',code',bb',ks',re',im',NA',nl',nc',VA',vl',vc',KA',kl',kc',Ji,rfl,J1,Qn,Ha⟩;have Kq:=zad ((Below.refl wr.heap.size wr).drew) Ha;have jd:=HR.out.call Kq;have gu:=Kq.size;obtain⟨p0,p1,p2,p3,p4,p5,p6,p7,p8,pf⟩:=(HB.out.call Kq).all;obtain⟨r0,r1,r2,r3,r4,r5,r6,r7,r8,rf⟩:=((HB.out.call Kq).alloc (.cells #[.slice NA' nl' nc',.int .u8 (k':Int),.int .u64 (n':Int),.string t',.slice VA' vl' vc',.int .u8 (code':Int),.bool bb',.slice KA' kl' kc',.complex .f64 (fb re') (fb im')] 88)).all))
   all_goals
    go_wp2;go_roundg (bulk (.mk k2 n2 t2 ks2))
    case measure=>have:=HG.out;simp only[bulk,zai] at this ⊢;omega
    case rel=>exact⟨_,_,_,_,_,_,_,_,_,_,_,_,rfl,HP.out.step ⟨gR,Kk⟩ kE Kq (Ji▸zgf J1 Qn) _ Hb Hd (Hv.imp id fun h=>by simp at h;omega)⟩
  ·have dk:((k:Int)==25)=false:=by rw[zac];omega
   have qV:=hP.may;have kq:=zhG qV hk;have kW:=hP.blk;have hl:l=ks.length:=hP.kd.1;have gQ:=zbn qV;have Kf:=hP.kd;have Hu:=hP.sz;have Qr:=hP.low.size;obtain⟨KS,B5⟩:∃ KS,(if k=24 then zbf (zar ks) else zar ks)=KS:=⟨_,rfl⟩;have VX:plan (.mk k n t ks)=fin [] k n t l KS:=by rw[zbg n t ks hk,B5,hl]
   have heq:Hid (plan (.mk k0 n0 t0 ks0)=.mk done k n t (first [raw done k n t l KS]) false KS (zaV KS) l):=zaa (by rw[hP.eq,VX,zq]);have qE:Fine 1099511627776 (fin [] k n t l KS):=VX▸zge 1099511627776 (.mk k n t ks) qV (by simp only[bulk] at kW Kj ⊢;omega);have hlK:zaV KS≤1099511627776:=qE.1.2.2.2.1;have hKl:KS.length≤1099511627776:=qE.2.1;have HFK:Hid (zfn 1099511627776 KS):=zaa qE.2.2.2;have u5:Hid ((if k=24 then zbf (zar ks) else zar ks)=KS):=zaa B5;have HFL:Hid (zfn 1099511627776 (zar ks)):=zaa (zdM 1099511627776 ks gQ (by simp only[bulk] at kW Kj;omega));have qq:Hid (k=24→ziS za3):=zaa (fun jJ=>HN (by rw[hP.eq,VX];simp[addN,fin,Pl.kind];exact jJ));clear qE B5 VX;have hbks:40 * zai ks≤1099511627776:=by simp only[bulk] at kW Kj;omega
   have hlen:ks.length≤33554432:=by have:=za0 ks;simp only[bulk] at kW Kj;omega
   have hIH:∀ v,bulk v≤zai ks→mayB v=true→ziS v:=fun v hv hm=>BZ.out v (by simp only[bulk] at kW ⊢;omega) hm;have B6:=P2.start hP;obtain⟨B,hBB⟩:∃ B,wr.heap.size=B:=⟨_,rfl⟩;rw[hBB] at B6;have br:=zaa B6;have HL:=zaa hl;have bo:=zaa Kf;have HKS:=zaa gQ;have HI:=zaa hIH;have HM:=zaa hM;have JZ:=zlR;clear hP B6 hg kW qV hl Kf gQ hIH hM BZ hBB;go_wp2;clear q0 q1 q2 q3 q4 q5 q6 q7 q8 qf Hu Qr;go_loopw [45] (fun i w2=>∃ (j:Nat) (KA:Oz) (kl kc:Nat) (xs2:List Value),j≤l∧i=.int .i64 (j:Nat)∧P2 w w2 B done NA nl nc KA kl kc (zar (ks.take j)) xs2 k n t A l c) (fun i _=>l - (intOf i).toNat)
   case atStart=>exact⟨0,none,0,0,[],Nat.zero_le _,rfl,by simpa [zar] using br.out⟩
   case round=>
    obtain⟨j,KA,kl,kc,xs2,hj,rfl,h2⟩:=hrel;clear br;have JI:=h2.row.len;rw[zbW,List.length_take] at JI;by_cases Hi:j < l
    ·obtain⟨b,o,k1,n1,t1,ks1,A1,l1,c1,rfl,GJ,hx,gF,Gm,kK⟩:=zoh bo.out Hi;have J':V.mk k1 n1 t1 ks1∈ks:=List.mem_of_getElem? GJ;have Hx:∀ wx:World,Below w.heap.size w wx→Calls prog 53 #[.map (some bm),.agg #[.int .u8 (k1:Int),.int .u64 (n1:Int),.string t1,.slice A1 l1 c1]] wx (zaT (plan (.mk k1 n1 t1 ks1)) wx):=fun wx hb=>
      HI.out (.mk k1 n1 t1 ks1) (zkk J') (zbj HKS.out _ J') gF Gm A1 l1 c1 bm wx (HM.out.call hb) (znz kK hb)
     have HT:Hid (zar (ks.take (j+1))=zar (ks.take j)++[plan (.mk k1 n1 t1 ks1)]):=zaa (by rw[List.take_add_one,GJ];simp[zfh,zar]);have qR:kl≤33554432:=by omega
     have Qc:l≤33554432:=by have:=HL.out;omega
     obtain⟨d0,d1,d2,d3⟩:=hx wr h2.low;obtain⟨i0,hi,gE,Hn,gb⟩:=info_parts ztZ;have ka:=h2.row.blk;have hB:=h2.hB;have Hu:=h2.sz;have Qr:=h2.low.size;have Jr:∀ r,(Value.slice KA kl kc).ownBlock=some r→w.heap.size+1+1 < r:=fun r e=>by have:=ka r e;omega
     have Gj:wr.heap.size < (wr.alloc (.cells #[.int .u8 (k1:Int),.int .u64 (n1:Int),.string t1,.slice A1 l1 c1] 43)).heap.size:=by simp
     have kh:=(Below.refl wr.heap.size wr).alloc zab (.cells #[.int .u8 (k1:Int),.int .u64 (n1:Int),.string t1,.slice A1 l1 c1] 43);have QI:=Box.new wr (.int .u8 (k1:Int)) (.int .u64 (n1:Int)) (.string t1) (.slice A1 l1 c1);obtain⟨W0,qS⟩:∃ W0,wr.alloc (.cells #[.int .u8 (k1:Int),.int .u64 (n1:Int),.string t1,.slice A1 l1 c1] 43)=W0:=⟨_,rfl⟩;rw[qS] at kh QI Gj;have Jl:=h2.box.call kh;have hLW:=zad h2.low kh;obtain⟨q0,q1,q2,q3,q4,q5,q6,q7,q8,qf⟩:=Jl.all;obtain⟨z0,z1,z2,z3,_⟩:=QI.all;have H2:=zaa h2;have HB:=zaa Jl;have YP:=zaa hLW;have HR:=zaa h2.row;have gC:=zaa kh;clear h2 hx GJ J' Jl hLW kh QI;go_wp2_with fail;go_region_law (first
      | (refine step_append_lies _ rfl _ _ 85 rfl B 88 i0 _ 9 128 underlying85 hi gE Hn gb rfl (by omega) _ _ _ rfl (by exact(jd.own.alloc _)) ⟨w1.heap.size,0,none⟩ 1 1 [.slice NA' nl' nc',.int .u8 (k':Int),.int .u64 (n':Int),.string t',.slice VA' vl' vc',.int .u8 (code':Int),.bool bb',.slice KA' kl' kc',.complex .f64 (fb re') (fb im')] rfl rfl (by exact news9 _ _ _ _ _ _ _ _ _ _ _ _ (by simp)) (fun u hu=>(by simp at hu;rcases hu with rfl | rfl | rfl | rfl | rfl | rfl | rfl | rfl | rfl<;>rfl)) (by omega) (by unfold maxLen;omega) (by omega) (by simp;omega) _ rfl ?_;intro g9 cap9 w9 Hb Hd Hv _;have yr:=((HB.out.call KF).alloc _).grown Hd Jr;clear q0 q1 q2 q3 q4 q5 q6 q7 q8 qf;obtain⟨q0,q1,q2,q3,q4,q5,q6,q7,q8,qf⟩:=yr.all)
      | (go_simp;go_at_call 53;(with_reducible refine(Hx W0.drew YP.out.drew).mono ?_);rintro e w1 ⟨ns',k',n',t',code',bb',ks',re',im',NA',nl',nc',VA',vl',vc',KA',kl',kc',Ji,rfl,J1,Qn,Ha⟩;have KF:=zad ((Below.refl W0.heap.size W0).drew) Ha;have Kq:=zad gC.out KF;have jd:=HR.out.call Kq;have gu:=Kq.size;obtain⟨p0,p1,p2,p3,p4,p5,p6,p7,p8,pf⟩:=(HB.out.call KF).all;obtain⟨r0,r1,r2,r3,r4,r5,r6,r7,r8,rf⟩:=((HB.out.call KF).alloc (.cells #[.slice NA' nl' nc',.int .u8 (k':Int),.int .u64 (n':Int),.string t',.slice VA' vl' vc',.int .u8 (code':Int),.bool bb',.slice KA' kl' kc',.complex .f64 (fb re') (fb im')] 88)).all))
     all_goals
      go_wp2;go_roundw
      case measure=>simp[intOf];omega
      case rel=>exact⟨j+1,_,_,_,_,by omega,by go_num,by rw[HT.out];exact H2.out.step Kq (Ji▸zgf (J1.less (by simp;omega)) (Qn.less (by simp;omega))) _ Hb Hd (Hv.imp id fun h=>by simp at h;omega)⟩
    ·have HE:Hid (ks.take j=ks):=zaa (ycB (by have:=HL.out;omega));rw[HE.out] at h2;have B7:Hid ((zar ks).length=kl):=zaa h2.row.len;have qR:kl≤1099511627776:=by have:=B7.out;rw[zbW] at this;omega
     have yu:Bnd (zar ks):=fun p hp=>by
      obtain⟨ns',k',n',t',c',b',ks',re',im'⟩:=p;have:=(zdm HFL.out _ hp).1;exact⟨by have:=this.2.2.2.1;simp only[Pl.re];omega,by have:=this.2.2.2.2.1;simp only[Pl.im];omega⟩
     have qg:∀ p,(zar ks)[0]? = some p→1≤p.kind∧p.kind≤24:=fun p hp=>by
      rw[zev] at hp;obtain⟨v,hv,rfl⟩:=List.mem_map.1 (List.mem_of_getElem? hp);have hm:=zbj HKS.out v hv;rw[(zcq v hm).1];exact zcN v hm
     obtain⟨q0,q1,q2,q3,q4,q5,q6,q7,q8,qf⟩:=h2.box.all;have hB:=h2.hB;have Hu:=h2.sz;have Qr:=h2.low.size;by_cases k24:k=24
     ·have d24:((k:Int)==24)=true:=by rw[beq_iff_eq];omega
      have Jg:=zaa (zlQ (qq.out k24) B bm KA kl kc (zar ks) xs2 wr (HM.out.call h2.low) h2.row yu Hu qR qg);have Vk:zbf (zar ks)=KS:=by have:=u5.out;rwa [if_pos k24] at this
      rw[Vk] at Jg;have H2:=zaa h2;have kI:=zaa h2.box;clear h2 yu qg Vk k24;go_wp2_with (go_at_call 96;(with_reducible refine Jg.out.mono ?_);rintro e w1 ⟨KA3,kl3,kc3,rfl,J1,Ha⟩;obtain⟨p0,p1,p2,p3,p4,p5,p6,p7,p8,pf⟩:=(kI.out.below Ha (by omega)).all);have Y7:=zaa (H2.out.alike Ha J1);clear Ha J1 H2 kI Jg p0 p1 p2 p3 p4 p5 p6 p7 p8 pf;clear q0 q1 q2 q3 q4 q5 q6 q7 q8 qf hB Hu Qr d24 B7 qR JI hj Hi HE;go_loopw [70] (fun i w3=>∃ (j:Nat),j≤kl3∧i=.int .i64 (j:Nat)∧P3 w w3 B done NA nl nc KS KA3 kl3 kc3 (zaV (KS.take j)) k n t A l c) (fun i _=>kl3 - (intOf i).toNat)
      case atStart=>exact⟨0,Nat.zero_le _,rfl,by simpa [zaV] using Y7.out⟩
      case round=>
       obtain⟨j,hj,rfl,h3⟩:=hrel;clear Y7;obtain⟨q0,q1,q2,q3,q4,q5,q6,q7,q8,qf⟩:=h3.box.all;have hB:=h3.hB;have Hu:=h3.sz;have Qr:=h3.low.size;have QH:Hid (kl3=KS.length):=zaa h3.row.1;have JC:l≤33554432:=by have:=HL.out;omega
       have JX:kl3≤1099511627776:=by have:=QH.out;omega
       by_cases Hi:j < kl3
       ·obtain⟨b,o,ns',k',n',t',code',bb',ks',re',im',NA',nl',nc',VA',vl',vc',KA',kl',kc',rfl,kU,hx,⟨a0,a1,a2,a3,a4,a5,a6,a7,a8⟩,JN,_⟩:=Ps.at_ h3.row Hi;have hf:=zdI HFK.out hx;obtain⟨LP,KR⟩:∃ LP,long (.mk ns' k' n' t' code' bb' ks' re' im')=LP:=⟨_,rfl⟩;obtain⟨LK,Xz⟩:∃ LK,zaV (KS.take j)=LK:=⟨_,rfl⟩;have HT:Hid (zaV (KS.take (j+1))=LK+LP):=zaa (by rw[zgP hx,KR,Xz]);have hle:=zew KS (j+1);rw[HT.out] at hle;rw[Xz] at h3 q8;have Hx:∀ wx:World,Pd wx ns' NA' nl' nc'→Calls prog 55 #[.agg #[.slice NA' nl' nc',.int .u8 (k':Int),.int .u64 (n':Int),.string t',.slice VA' vl' vc',.int .u8 (code':Int),.bool bb',.slice KA' kl' kc',.complex .f64 (fb re') (fb im')]] wx (zcE LP wx):=fun wx h=>KR▸zdC _ ns' ks' NA' nl' nc' k' n' t' VA' vl' vc' code' bb' KA' kl' kc' re' im' wx zab hf h;have CH:∀ wx:World,(binOp .add 86 (.complex .f64 (fb LK) (fb l)) (.complex .f64 (fb LP) 0)).run prog wx=.ok (.complex .f64 (fb (LK+LP)) (fb l)) wx:=fun wx=>zkM LK l LP (by omega) (by omega) wx;have kh:=(Below.refl wr.heap.size wr).alloc zab (.cells #[.slice NA' nl' nc',.int .u8 (k':Int),.int .u64 (n':Int),.string t',.slice VA' vl' vc',.int .u8 (code':Int),.bool bb',.slice KA' kl' kc',.complex .f64 (fb re') (fb im')] 88);have QI:=Bx.new wr (.slice NA' nl' nc') (.int .u8 (k':Int)) (.int .u64 (n':Int)) (.string t') (.slice VA' vl' vc') (.int .u8 (code':Int)) (.bool bb') (.slice KA' kl' kc') (.complex .f64 (fb re') (fb im'));obtain⟨W0,qS⟩:∃ W0,wr.alloc (.cells #[.slice NA' nl' nc',.int .u8 (k':Int),.int .u64 (n':Int),.string t',.slice VA' vl' vc',.int .u8 (code':Int),.bool bb',.slice KA' kl' kc',.complex .f64 (fb re') (fb im')] 88)=W0:=⟨_,rfl⟩;rw[qS] at kh QI;have Y8:Pd W0 ns' NA' nl' nc':=(JN.keep fun i hi=>kh.block i hi.2).mono fun i hi=>ycv hi.2 kh.size;have Jl:=h3.box.call kh;obtain⟨r0,r1,r2,r3,r4,r5,r6,r7,r8,rf⟩:=Jl.all;obtain⟨y0,y1,y2,y3,y4,y5,y6,y7,y8,_⟩:=QI.all;have H3:=zaa h3;have HB:=zaa Jl;have gC:=zaa kh;have Kp:=zaa Y8;clear h3 hx Jl kh QI JN Y8 hf KR Xz kU;go_wp2_with fail;go_region_law (go_simp;go_at_call 55;(with_reducible refine(Hx W0.drew (Kp.out.call ((Below.refl _ _).drew))).mono ?_);rintro e w2 ⟨rfl,He⟩;have vi:=zad ((Below.refl W0.heap.size W0).drew) He;have KE:=zad gC.out vi;obtain⟨p0,p1,p2,p3,p4,p5,p6,p7,p8,pf⟩:=(HB.out.call vi).all)
        all_goals
         go_wp2;go_roundw
         case measure=>simp[intOf];omega
         case rel=>exact⟨j+1,by omega,by go_num,by rw[HT.out];exact H3.out.step KE⟩
       ·have B8:Hid (KS.take j=KS):=zaa (ycB (by have:=QH.out;omega));rw[B8.out] at h3 q8;have je:RepC wr (fun i=>w.heap.size+1+1+1≤i∧i < wr.heap.size) (raw done k n t l KS) [.slice NA nl nc,.int .u8 (k:Int),.int .u64 (n:Int),.string t,.slice A l c,.int .u8 0,.bool false,.slice KA3 kl3 kc3,.complex .f64 (fb (zaV KS)) (fb l)]:=zgf (h3.names.mono fun i hi=>⟨hi.1,by omega⟩) (h3.row.mono fun i hi=>⟨by omega,hi.2⟩);obtain⟨W0,qS⟩:∃ W0,wr.alloc (.cells #[.slice NA nl nc,.int .u8 (k:Int),.int .u64 (n:Int),.string t,.slice A l c,.int .u8 0,.bool false,.slice KA3 kl3 kc3,.complex .f64 (fb (zaV KS)) (fb l)] 88)=W0:=⟨_,rfl⟩;have kh:Below wr.heap.size wr W0:=qS▸(Below.refl wr.heap.size wr).alloc zab _;have vj:Pn (w.heap.size+1+1+1) W0 [raw done k n t l KS] (some ⟨wr.heap.size,0,none⟩) 1 1:=by
         refine znF je kh ⟨by omega,by rw[←qS];simp⟩ fun j u hu=>?_;have h:=news9 wr (.slice NA nl nc) (.int .u8 (k:Int)) (.int .u64 (n:Int)) (.string t) (.slice A l c) (.int .u8 0) (.bool false) (.slice KA3 kl3 kc3) (.complex .f64 (fb (zaV KS)) (fb l)) 88 _ rfl j u hu;rw[qS] at h
         rwa [show (⟨wr.heap.size,0,none⟩:Addr).add j=⟨wr.heap.size,j,none⟩ by simp[Addr.add];intro h;exact h.symm] at h
        obtain⟨CD,XA⟩:∃ CD,first [raw done k n t l KS]=CD:=⟨_,rfl⟩
        have Hx:Calls prog 97 #[.map (some bm),.slice (some ⟨wr.heap.size,0,none⟩) 1 1] W0 (zkF CD W0):=XA▸zdg [raw done k n t l KS] bm _ 1 1 W0 (HM.out.call (zad h3.low kh)) vj.pd (fun p hp=>by simp at hp;subst hp;exact⟨by simp only[raw,Pl.re];omega,by simp only[raw,Pl.im];omega⟩) (by omega) rfl kq.1 kq.2;rw[XA] at heq;have H3:=zaa h3;have gC:=zaa kh;have Jl:=h3.box;have Y9:=h3.res;have kI:=zaa (Jl.call kh);have B9:=zaa (Y9.call kh);clear h3 je kh vj XA Jl Y9;go_wp2_with (go_at_call 97;(with_reducible refine Hx.mono ?_);rintro e w2 ⟨rfl,He⟩;obtain⟨p0,p1,p2,p3,p4,p5,p6,p7,p8,pf⟩:=(kI.out.call He).all;obtain⟨r0,r1,r2,r3,r4,r5,r6,r7,r8,rf⟩:=(B9.out.call He).all);refine bodyPost_ret (v:=.agg #[.slice NA nl nc,.int .u8 (k:Int),.int .u64 (n:Int),.string t,.slice A l c,.int .u8 (CD:Int),.bool false,.slice KA3 kl3 kc3,.complex .f64 (fb (zaV KS)) (fb l)]) (by simp[results,results53,go_sem,r0,r1,r2,r3,r4,r5,r6,r7,r8]) rfl ?_;have kN:=gC.out.size;have Gw:=He.size;have Qs:=H3.out.low.size;refine⟨done,k,n,t,CD,false,KS,zaV KS,l,NA,nl,nc,A,l,c,KA3,kl3,kc3,heq.out,rfl,?_,?_,?_⟩
        ·exact(H3.out.finish (zad gC.out He) (fun i hi=>by (repeat rw[ycx _ _ _ i (by simp;omega)])) (by simp)).1
        ·exact(H3.out.finish (zad gC.out He) (fun i hi=>by (repeat rw[ycx _ _ _ i (by simp;omega)])) (by simp)).2
        ·(repeat' refine Below.setCell ?_ (by simp<;>omega) _)
         exact zad (zad H3.out.low gC.out) He
     ·have d24:((k:Int)==24)=false:=by rw[zac];omega
      obtain⟨KA3,kl3,kc3,e1,e2,e3⟩:∃ a b c,a=KA∧b=kl∧c=kc:=⟨_,_,_,rfl,rfl,rfl⟩;subst e1 e2 e3;have Vk:zar ks=KS:=by have:=u5.out;rwa [if_neg k24] at this
      rw[Vk] at h2;have Y7:=zaa h2.plain;clear h2 yu qg Vk k24;go_wp2;clear q0 q1 q2 q3 q4 q5 q6 q7 q8 qf hB Hu Qr d24 B7 qR JI hj Hi HE;go_loopw [70] (fun i w3=>∃ (j:Nat),j≤kl3∧i=.int .i64 (j:Nat)∧P3 w w3 B done NA nl nc KS KA3 kl3 kc3 (zaV (KS.take j)) k n t A l c) (fun i _=>kl3 - (intOf i).toNat)
      case atStart=>exact⟨0,Nat.zero_le _,rfl,by simpa [zaV] using Y7.out⟩
      case round=>
       obtain⟨j,hj,rfl,h3⟩:=hrel;clear Y7;obtain⟨q0,q1,q2,q3,q4,q5,q6,q7,q8,qf⟩:=h3.box.all;have hB:=h3.hB;have Hu:=h3.sz;have Qr:=h3.low.size;have QH:Hid (kl3=KS.length):=zaa h3.row.1;have JC:l≤33554432:=by have:=HL.out;omega
       have JX:kl3≤1099511627776:=by have:=QH.out;omega
       by_cases Hi:j < kl3
       ·obtain⟨b,o,ns',k',n',t',code',bb',ks',re',im',NA',nl',nc',VA',vl',vc',KA',kl',kc',rfl,kU,hx,⟨a0,a1,a2,a3,a4,a5,a6,a7,a8⟩,JN,_⟩:=Ps.at_ h3.row Hi;have hf:=zdI HFK.out hx;obtain⟨LP,KR⟩:∃ LP,long (.mk ns' k' n' t' code' bb' ks' re' im')=LP:=⟨_,rfl⟩;obtain⟨LK,Xz⟩:∃ LK,zaV (KS.take j)=LK:=⟨_,rfl⟩;have HT:Hid (zaV (KS.take (j+1))=LK+LP):=zaa (by rw[zgP hx,KR,Xz]);have hle:=zew KS (j+1);rw[HT.out] at hle;rw[Xz] at h3 q8;have Hx:∀ wx:World,Pd wx ns' NA' nl' nc'→Calls prog 55 #[.agg #[.slice NA' nl' nc',.int .u8 (k':Int),.int .u64 (n':Int),.string t',.slice VA' vl' vc',.int .u8 (code':Int),.bool bb',.slice KA' kl' kc',.complex .f64 (fb re') (fb im')]] wx (zcE LP wx):=fun wx h=>KR▸zdC _ ns' ks' NA' nl' nc' k' n' t' VA' vl' vc' code' bb' KA' kl' kc' re' im' wx zab hf h;have CH:∀ wx:World,(binOp .add 86 (.complex .f64 (fb LK) (fb l)) (.complex .f64 (fb LP) 0)).run prog wx=.ok (.complex .f64 (fb (LK+LP)) (fb l)) wx:=fun wx=>zkM LK l LP (by omega) (by omega) wx;have kh:=(Below.refl wr.heap.size wr).alloc zab (.cells #[.slice NA' nl' nc',.int .u8 (k':Int),.int .u64 (n':Int),.string t',.slice VA' vl' vc',.int .u8 (code':Int),.bool bb',.slice KA' kl' kc',.complex .f64 (fb re') (fb im')] 88);have QI:=Bx.new wr (.slice NA' nl' nc') (.int .u8 (k':Int)) (.int .u64 (n':Int)) (.string t') (.slice VA' vl' vc') (.int .u8 (code':Int)) (.bool bb') (.slice KA' kl' kc') (.complex .f64 (fb re') (fb im'));obtain⟨W0,qS⟩:∃ W0,wr.alloc (.cells #[.slice NA' nl' nc',.int .u8 (k':Int),.int .u64 (n':Int),.string t',.slice VA' vl' vc',.int .u8 (code':Int),.bool bb',.slice KA' kl' kc',.complex .f64 (fb re') (fb im')] 88)=W0:=⟨_,rfl⟩;rw[qS] at kh QI;have Y8:Pd W0 ns' NA' nl' nc':=(JN.keep fun i hi=>kh.block i hi.2).mono fun i hi=>ycv hi.2 kh.size;have Jl:=h3.box.call kh;obtain⟨r0,r1,r2,r3,r4,r5,r6,r7,r8,rf⟩:=Jl.all;obtain⟨y0,y1,y2,y3,y4,y5,y6,y7,y8,_⟩:=QI.all;have H3:=zaa h3;have HB:=zaa Jl;have gC:=zaa kh;have Kp:=zaa Y8;clear h3 hx Jl kh QI JN Y8 hf KR Xz kU;go_wp2_with fail;go_region_law (go_simp;go_at_call 55;(with_reducible refine(Hx W0.drew (Kp.out.call ((Below.refl _ _).drew))).mono ?_);rintro e w2 ⟨rfl,He⟩;have vi:=zad ((Below.refl W0.heap.size W0).drew) He;have KE:=zad gC.out vi;obtain⟨p0,p1,p2,p3,p4,p5,p6,p7,p8,pf⟩:=(HB.out.call vi).all)
        all_goals
         go_wp2;go_roundw
         case measure=>simp[intOf];omega
         case rel=>exact⟨j+1,by omega,by go_num,by rw[HT.out];exact H3.out.step KE⟩
       ·have B8:Hid (KS.take j=KS):=zaa (ycB (by have:=QH.out;omega));rw[B8.out] at h3 q8;have je:RepC wr (fun i=>w.heap.size+1+1+1≤i∧i < wr.heap.size) (raw done k n t l KS) [.slice NA nl nc,.int .u8 (k:Int),.int .u64 (n:Int),.string t,.slice A l c,.int .u8 0,.bool false,.slice KA3 kl3 kc3,.complex .f64 (fb (zaV KS)) (fb l)]:=zgf (h3.names.mono fun i hi=>⟨hi.1,by omega⟩) (h3.row.mono fun i hi=>⟨by omega,hi.2⟩);obtain⟨W0,qS⟩:∃ W0,wr.alloc (.cells #[.slice NA nl nc,.int .u8 (k:Int),.int .u64 (n:Int),.string t,.slice A l c,.int .u8 0,.bool false,.slice KA3 kl3 kc3,.complex .f64 (fb (zaV KS)) (fb l)] 88)=W0:=⟨_,rfl⟩;have kh:Below wr.heap.size wr W0:=qS▸(Below.refl wr.heap.size wr).alloc zab _;have vj:Pn (w.heap.size+1+1+1) W0 [raw done k n t l KS] (some ⟨wr.heap.size,0,none⟩) 1 1:=by
         refine znF je kh ⟨by omega,by rw[←qS];simp⟩ fun j u hu=>?_;have h:=news9 wr (.slice NA nl nc) (.int .u8 (k:Int)) (.int .u64 (n:Int)) (.string t) (.slice A l c) (.int .u8 0) (.bool false) (.slice KA3 kl3 kc3) (.complex .f64 (fb (zaV KS)) (fb l)) 88 _ rfl j u hu;rw[qS] at h
         rwa [show (⟨wr.heap.size,0,none⟩:Addr).add j=⟨wr.heap.size,j,none⟩ by simp[Addr.add];intro h;exact h.symm] at h
        obtain⟨CD,XA⟩:∃ CD,first [raw done k n t l KS]=CD:=⟨_,rfl⟩
        have Hx:Calls prog 97 #[.map (some bm),.slice (some ⟨wr.heap.size,0,none⟩) 1 1] W0 (zkF CD W0):=XA▸zdg [raw done k n t l KS] bm _ 1 1 W0 (HM.out.call (zad h3.low kh)) vj.pd (fun p hp=>by simp at hp;subst hp;exact⟨by simp only[raw,Pl.re];omega,by simp only[raw,Pl.im];omega⟩) (by omega) rfl kq.1 kq.2;rw[XA] at heq;have H3:=zaa h3;have gC:=zaa kh;have Jl:=h3.box;have Y9:=h3.res;have kI:=zaa (Jl.call kh);have B9:=zaa (Y9.call kh);clear h3 je kh vj XA Jl Y9;go_wp2_with (go_at_call 97;(with_reducible refine Hx.mono ?_);rintro e w2 ⟨rfl,He⟩;obtain⟨p0,p1,p2,p3,p4,p5,p6,p7,p8,pf⟩:=(kI.out.call He).all;obtain⟨r0,r1,r2,r3,r4,r5,r6,r7,r8,rf⟩:=(B9.out.call He).all);refine bodyPost_ret (v:=.agg #[.slice NA nl nc,.int .u8 (k:Int),.int .u64 (n:Int),.string t,.slice A l c,.int .u8 (CD:Int),.bool false,.slice KA3 kl3 kc3,.complex .f64 (fb (zaV KS)) (fb l)]) (by simp[results,results53,go_sem,r0,r1,r2,r3,r4,r5,r6,r7,r8]) rfl ?_;have kN:=gC.out.size;have Gw:=He.size;have Qs:=H3.out.low.size;refine⟨done,k,n,t,CD,false,KS,zaV KS,l,NA,nl,nc,A,l,c,KA3,kl3,kc3,heq.out,rfl,?_,?_,?_⟩
        ·exact(H3.out.finish (zad gC.out He) (fun i hi=>by (repeat rw[ycx _ _ _ i (by simp;omega)])) (by simp)).1
        ·exact(H3.out.finish (zad gC.out He) (fun i hi=>by (repeat rw[ycx _ _ _ i (by simp;omega)])) (by simp)).2
        ·(repeat' refine Below.setCell ?_ (by simp<;>omega) _)
         exact zad (zad H3.out.low gC.out) He
theorem zl4:ziS za3:=fun _ _ A l c bm w hM hK=>
 zja 1 0 ⟨#[]⟩ [] (fun h=>by rw[show V.mk 1 0 ⟨#[]⟩ []=za3 from rfl,ziR] at h;cases h) (fun v hv=>by have:=zbz v;simp[bulk,zai,ByteArray.size] at hv;omega) (by decide) (by decide) (by omega) (by omega) A l c bm w hM hK
theorem zqH (N:Nat):∀ v:V,bulk v≤N→mayB v=true→bulk v≤33554432→ziS v:=by
 induction N with
 | zero=>intro v hv;have:=zbz v;omega
 | succ N ih=>
  intro v hv hm hb hk hn A l c bm w hM hK;obtain⟨k,n,t,ks⟩:=v;exact zja k n t ks (fun _=>zl4) (fun u hu hmu=>ih u (by omega) hmu (by omega)) hm hb hk hn A l c bm w hM hK
theorem zqI (v:V)(hm:mayB v=true)(hb:bulk v≤33554432):ziS v:=zqH _ v zab hm hb
mutual
def mass:Pl→Nat
 | .mk ns _ _ t _ _ ks _ _=>zfp ns+33+t.size+zeQ ks
def zfp:List Pl→Nat
 | []=>0
 | p::r=>1+mass p+zfp r
def zeQ:List Pl→Nat
 | []=>0
 | p::r=>mass p+zeQ r
end
theorem zqJ (k n:Nat)(t:ByteArray)(c re im:Nat)(ks:Lz):(dlay k n t c re im ks).length≤32+t.size+ks.length:=by
 have:=zkD c;unfold dlay
 split
 ·simp
 ·split
  ·rw[zaF];omega
  ·split
   ·rw[zbK];omega
   ·split
    ·rw[ycw,zaF,zbK];omega
    ·rw[ycw,ycw,zaF,zaF];omega
mutual
theorem zhT:∀ p:Pl,(lay p).length≤mass p
 | .mk ns k n t c b ks re im=>by
  have h1:=zqJ k n t c re im (layK ks);have h2:=zjc ks;have h3:=zjb ns;simp only[lay,mass]
  split
  ·omega
  ·rw[ycw,ycz];omega
theorem zjb:∀ l:List Pl,(layN l).length≤zfp l
 | []=>by simp[layN]
 | p::r=>by
  have h1:=zhT p;have h2:=zjb r;simp only[layN,zfp,ycz,ycw];omega
theorem zjc:∀ l:List Pl,(layK l).length≤zeQ l
 | []=>by simp[layK]
 | p::r=>by
  have h1:=zhT p;have h2:=zjc r;simp only[layK,zeQ,ycw];omega
end
theorem zjd (c:Nat)(b:Bool)(p:Pl):mass (setc c b p)=mass p:=by cases p;rfl
theorem zg3 (c:Nat)(b:Bool):∀ l:List Pl,zeQ (l.map (setc c b))=zeQ l
 | []=>rfl
 | p::r=>by simp only[List.map_cons,zeQ,zjd,zg3 c b r]
theorem zfm:∀ a b:List Pl,zfp (a++b)=zfp a+zfp b
 | [],b=>by simp[zfp]
 | p::a,b=>by simp only[List.cons_append,zfp,zfm a b];omega
theorem zoi (ds:List Pl)(p:Pl):mass (addN ds p)=zfp ds+mass p:=by
 cases p;simp only[addN,mass,zfm];omega
theorem zl5 (l:List Pl):zeQ (zbf l)≤zeQ l+33:=by
 cases l with
 | nil=>decide
 | cons p r=>simp only[zbf,zeQ,zjd,zg3];omega
mutual
theorem zje:∀ v:V,mayB v=true→mass (plan v)≤100 * bulk v
 | .mk k n t ks,h=>by
  by_cases hk:k=25
  ·subst hk;obtain⟨x,y,rfl,_,hx,hy⟩:=zaS h;have h1:=zfb [x,y] (zbn h);simp only[zar,zeQ,zai] at h1;rw[zcp,zoi];simp only[zfp,bulk,zai];omega
  ·have h1:=zfb ks (zbn h);have h2:=zl5 (zar ks);rw[zbg n t ks hk];simp only[fin,mass,zfp,bulk]
   split<;>omega
theorem zfb:∀ l:List V,mayL l=true→zeQ (zar l)≤100 * zai l
 | [],_=>by simp[zar,zai,zeQ]
 | v::r,h=>by
  simp only[mayL,ycy] at h;have h1:=zje v h.1;have h2:=zfb r h.2;simp only[zar,zeQ,zai];omega
end
theorem zhU (v:V)(h:mayB v=true):(lay (plan v)).length≤100 * bulk v:=ycA (zhT _) (zje v h)
theorem zud {v:V}(h:okB v=true):mayB v=true:=by
 simp only[okB,ycy] at h
 first | exact h.2 | exact h.1.2 | exact h.1.1 | exact h.1
def zib (v:V)(w:World)(e:Ending)(w':World):Prop:=∃ A m c,e=.returned (.tuple #[.slice A m c,.int .i64 0])∧Utf.Own .u8 256 5 w' w.heap.size A m c (lay (plan v))∧Below w.heap.size w w'
theorem zue {w:World}{l:List Pl}{A:Oz}{n c:Nat}(h:Pd w l A n c)(o:Obj):Ps (w.alloc o) (Lo w.heap.size) l A n c:=Ps.keep h fun _ hi=>Below.heap_alloc _ _ _ hi
theorem zl6 (LG:Nat)(h:LG≤1099511627776):∃ CC:Array Value,(∀ wx:World,(Instr.makeSlice 22 (.int .i64 0) (.int .i64 (LG:Int))).run prog wx=.ok (.slice (some ⟨wx.heap.size,0,none⟩) 0 LG) (wx.alloc (.cells CC 5))) ∧
  (∀ (wx:World) (base:Nat),base≤wx.heap.size→Utf.Own .u8 256 5 (wx.alloc (.cells CC 5)) base (some ⟨wx.heap.size,0,none⟩) 0 LG []):=by
 obtain⟨i0,hi,gE,Hn,gb⟩:=info_parts zkH;refine⟨madeCells (Value.int .u8 0).cells (LG * i0.size),fun wx=>?_,fun wx base hb=>⟨fun _ h=>(by cases h),World.ownsRow_made wx _ LG hb (by unfold maxLen;omega) ?_,Typ.new _ _ _ _ _ (zgD rfl ⟨0,by omega,rfl⟩ _)⟩⟩
 ·have:=run_make (P:=prog) wx 22 5 i0 (.int .u8 0) underlying22 hi gE .i64 .i64 0 (LG:Int) (by omega) (by omega) (by rw[gb];omega) (by omega)
  simpa using this
 ·rw[size_madeCells,Hn]
theorem fill9 {w3:World}{g:Nat}{z0 z1 z2 z3 z4 z5 z6 z7 z8:Value}(hz:Bx w3 g z0 z1 z2 z3 z4 z5 z6 z7 z8)(x0 x1 x2 x3 x4 x5 x6 x7 x8:Value){W4:World}
  (hW:(((((((((w3.setCell ⟨g,0,none⟩ x0).setCell ⟨g,1,none⟩ x1).setCell ⟨g,2,none⟩ x2).setCell ⟨g,3,none⟩ x3).setCell ⟨g,4,none⟩ x4).setCell ⟨g,5,none⟩ x5).setCell ⟨g,6,none⟩ x6).setCell ⟨g,7,none⟩ x7).setCell ⟨g,8,none⟩ x8)=W4) :
  Bx W4 g x0 x1 x2 x3 x4 x5 x6 x7 x8∧(∀ i,i≠g→W4.heap[i]? = w3.heap[i]?)∧W4.heap.size=w3.heap.size∧∀ B w,Below B w w3→B≤g→Below B w W4:=by
 subst hW;refine⟨?_,fun i hi=>?_,by simp,fun B w hb hg=>?_⟩
 ·unfold Bx at hz ⊢;simp[World.setCell,Array.getElem?_modify,hz]
 ·(repeat rw[ycx _ _ _ i hi])
 ·exact((((((((hb.setCell hg _).setCell hg _).setCell hg _).setCell hg _).setCell hg _).setCell hg _).setCell hg _).setCell hg _).setCell hg _
theorem zqK (k n:Nat)(t:ByteArray)(ks:List V)(A:Oz)(l c:Nat)(w:World)(Hq:okB (.mk k n t ks)=true)(hb:bulk (.mk k n t ks)≤33554432)(hk:k < 256)(hn:n < 18446744073709551616)(hK:Kd w ks A l c)(Ho:Tab w) :
  Calls prog 25 #[.agg #[.int .u8 (k:Int),.int .u64 (n:Int),.string t,.slice A l c]] w (zib (.mk k n t ks) w):=by
 have HR:=fun wx (h:Below w.heap.size w wx)=>zcL k n t ks A l c wx (by simp only[bulk] at hb;omega) (by simp only[bulk] at hb;omega) hn (hK.call h) (Ho.call h);rw[Hq] at HR;have hm:=zud Hq;have HP:∀ bm wx,CM wx bm→Below w.heap.size w wx→Calls prog 53 #[.map (some bm),.agg #[.int .u8 (k:Int),.int .u64 (n:Int),.string t,.slice A l c]] wx (zaT (plan (.mk k n t ks)) wx):=fun bm wx hM h=>zqI (.mk k n t ks) hm hb hk hn A l c bm wx hM (hK.call h);have hf:=zge 1099511627776 (.mk k n t ks) hm (by omega);have Jb:=zhU (.mk k n t ks) hm;have KX:=ycA (zdK _) (zfB (.mk k n t ks) hm);have hB:Below w.heap.size w (w.alloc (.cells #[.int .u8 (k:Int),.int .u64 (n:Int),.string t,.slice A l c] 43)):=(za _ _);have Hz:=Box.new w (.int .u8 (k:Int)) (.int .u64 (n:Int)) (.string t) (.slice A l c);obtain⟨z0,z1,z2,z3,_⟩:=Hz.all;have vY:=zbm;go_enter func25,ntmps25;go_wp2_with (go_at_call 32;(with_reducible refine(HR _ hB).mono ?_);rintro e w1 ⟨rfl,Ha⟩;have gH:=zad hB Ha;have qW:=Hz.call Ha;obtain⟨y0,y1,y2,y3,_⟩:=qW.all);have Hl:=zaa gH;obtain⟨u0,u1,u2,u3,_⟩:=(qW.alloc (.cells #[.slice none 0 0,.int .u8 0,.int .u64 0,.string ⟨#[]⟩,.slice none 0 0,.int .u8 0,.bool false,.slice none 0 0,.complex .f64 0 0] 88)).all;go_region_law (first
  | (go_simp;go_at_call 52;(with_reducible refine(zfi _).mono ?_);rintro e w2 ⟨bm,rfl,ji,He⟩;have qa:=zad ((Below.refl w1.heap.size w1).drew) He;have G5:=zad Hl.out qa;obtain⟨x0,x1,x2,x3,_⟩:=(qW.call qa).all;obtain⟨v0,v1,v2,v3,_⟩:=((qW.call qa).alloc (.cells #[.slice none 0 0,.int .u8 0,.int .u64 0,.string ⟨#[]⟩,.slice none 0 0,.int .u8 0,.bool false,.slice none 0 0,.complex .f64 0 0] 88)).all)
  | (go_simp;go_at_call 52;(with_reducible refine(zfi _).mono ?_);rintro e w2 ⟨bm,rfl,ji,He⟩;have qa:=zad (((Below.refl w1.heap.size w1).drew).alloc zab (.cells #[.slice none 0 0,.int .u8 0,.int .u64 0,.string ⟨#[]⟩,.slice none 0 0,.int .u8 0,.bool false,.slice none 0 0,.complex .f64 0 0] 88)) He;have G5:=zad Hl.out qa;have gb:=(show Bx w2 w1.heap.size _ _ _ _ _ _ _ _ _ from (Bx.new w1.drew (.slice none 0 0) (.int .u8 0) (.int .u64 0) (.string ⟨#[]⟩) (.slice none 0 0) (.int .u8 0) (.bool false) (.slice none 0 0) (.complex .f64 0 0)).call He);obtain⟨x0,x1,x2,x3,_⟩:=(qW.call qa).all)
  | (go_simp;go_at_call 53;(with_reducible refine(HP bm _ ji G5).mono ?_);rintro e w3 ⟨ns',k',n',t',code',bb',ks',re',im',NA',nl',nc',VA',vl',vc',KA',kl',kc',Ji,rfl,J1,Qn,Hj⟩;have Vz:=zad G5 Hj;have jn:=gb.call Hj;obtain⟨q0,q1,q2,q3,q4,q5,q6,q7,q8,qf⟩:=jn.all)
  | (go_simp;go_at_call 53;(with_reducible refine(HP bm _ ji G5).mono ?_);rintro e w3 ⟨ns',k',n',t',code',bb',ks',re',im',NA',nl',nc',VA',vl',vc',KA',kl',kc',Ji,rfl,J1,Qn,Hj⟩;have Vz:=zad G5 Hj)
  | (go_simp;go_at_call 53;(with_reducible refine(HP bm _ (ji.call ((Below.refl _ _).alloc zab (.cells #[.slice none 0 0,.int .u8 0,.int .u64 0,.string ⟨#[]⟩,.slice none 0 0,.int .u8 0,.bool false,.slice none 0 0,.complex .f64 0 0] 88))) (G5.alloc G5.size (.cells #[.slice none 0 0,.int .u8 0,.int .u64 0,.string ⟨#[]⟩,.slice none 0 0,.int .u8 0,.bool false,.slice none 0 0,.complex .f64 0 0] 88))).mono ?_);rintro e w3 ⟨ns',k',n',t',code',bb',ks',re',im',NA',nl',nc',VA',vl',vc',KA',kl',kc',Ji,rfl,J1,Qn,Hj⟩;have Vz:=zad (G5.alloc G5.size (.cells #[.slice none 0 0,.int .u8 0,.int .u64 0,.string ⟨#[]⟩,.slice none 0 0,.int .u8 0,.bool false,.slice none 0 0,.complex .f64 0 0] 88)) Hj;have gb:=(Bx.new w2 (.slice none 0 0) (.int .u8 0) (.int .u64 0) (.string ⟨#[]⟩) (.slice none 0 0) (.int .u8 0) (.bool false) (.slice none 0 0) (.complex .f64 0 0));have jn:=gb.call Hj;obtain⟨q0,q1,q2,q3,q4,q5,q6,q7,q8,qf⟩:=jn.all))
 all_goals
  first
   | (have Vs:Bx w3 w2.heap.size _ _ _ _ _ _ _ _ _:=jn;generalize jj:World.setCell _ _ _=W4;obtain⟨hX,XB,Va,Vf⟩:=fill9 Vs (.slice NA' nl' nc') (.int .u8 (k':Int)) (.int .u64 (n':Int)) (.string t') (.slice VA' vl' vc') (.int .u8 (code':Int)) (.bool bb') (.slice KA' kl' kc') (.complex .f64 (fb re') (fb im')) jj;have Vf:=Vf _ _ Vz (by first | exact G5.size | exact Hl.out.size);have Hi:w2.heap.size < w2.heap.size+1:=(by first | exact Nat.lt_succ_self _ | exact Nat.lt_succ_of_lt gb.lt);have hn:Pd W4 ns' NA' nl' nc':=(Ps.keep J1 fun i hi=>XB i (by first | (have:=hi.1;simp at this;omega) | (have:=hi.1;have:=gb.lt;omega))).mono fun i hi=>(by rw[Va];exact hi.2);have kq:Pd W4 ks' KA' kl' kc':=(Ps.keep Qn fun i hi=>XB i (by first | (have:=hi.1;simp at this;omega) | (have:=hi.1;have:=gb.lt;omega))).mono fun i hi=>(by rw[Va];exact hi.2);clear Hi;generalize w2.heap.size=g4 at hX ⊢)
   | (have Vs:Bx w3 w1.heap.size _ _ _ _ _ _ _ _ _:=jn;generalize jj:World.setCell _ _ _=W4;obtain⟨hX,XB,Va,Vf⟩:=fill9 Vs (.slice NA' nl' nc') (.int .u8 (k':Int)) (.int .u64 (n':Int)) (.string t') (.slice VA' vl' vc') (.int .u8 (code':Int)) (.bool bb') (.slice KA' kl' kc') (.complex .f64 (fb re') (fb im')) jj;have Vf:=Vf _ _ Vz (by first | exact G5.size | exact Hl.out.size);have Hi:w1.heap.size < w2.heap.size+1:=(by first | exact Nat.lt_succ_self _ | exact Nat.lt_succ_of_lt gb.lt);have hn:Pd W4 ns' NA' nl' nc':=(Ps.keep J1 fun i hi=>XB i (by first | (have:=hi.1;simp at this;omega) | (have:=hi.1;have:=gb.lt;omega))).mono fun i hi=>(by rw[Va];exact hi.2);have kq:Pd W4 ks' KA' kl' kc':=(Ps.keep Qn fun i hi=>XB i (by first | (have:=hi.1;simp at this;omega) | (have:=hi.1;have:=gb.lt;omega))).mono fun i hi=>(by rw[Va];exact hi.2);clear Hi;generalize w1.heap.size=g4 at hX ⊢)
   | (generalize jj:w3.alloc _=W4;have hX:Bx W4 w3.heap.size (.slice NA' nl' nc') (.int .u8 (k':Int)) (.int .u64 (n':Int)) (.string t') (.slice VA' vl' vc') (.int .u8 (code':Int)) (.bool bb') (.slice KA' kl' kc') (.complex .f64 (fb re') (fb im')):=(by subst jj;exact Bx.new w3 _ _ _ _ _ _ _ _ _);have Vf:Below w.heap.size w W4:=(by subst jj;exact Vz.alloc Vz.size _);have hn:Pd W4 ns' NA' nl' nc':=(by subst jj;exact J1.pd.alloc _);have kq:Pd W4 ks' KA' kl' kc':=(by subst jj;exact Qn.pd.alloc _);generalize w3.heap.size=g4 at hX ⊢)
 all_goals
  rw[Ji] at hf Jb KX;have bl:=zaa Ji;clear He qa G5 Hj Vz J1 Qn x0 x1 x2 x3 y0 y1 y2 y3 u0 u1 u2 u3 qW HP HR z0 z1 z2 z3 Hz Ji ji;obtain⟨q0,q1,q2,q3,q4,q5,q6,q7,q8,qf⟩:=hX.all;obtain⟨r0,r1,r2,r3,r4,r5,r6,r7,r8,rf⟩:=(hX.call ((Below.refl _ _).drew)).all;obtain⟨LG,ca⟩:∃ LG,long (.mk ns' k' n' t' code' bb' ks' re' im')=LG:=⟨_,rfl⟩;obtain⟨LY,bu⟩:∃ LY,lay (.mk ns' k' n' t' code' bb' ks' re' im')=LY:=⟨_,rfl⟩;have qC:∀ wx:World,Pd wx ns' NA' nl' nc'→Calls prog 55 #[.agg #[.slice NA' nl' nc',.int .u8 (k':Int),.int .u64 (n':Int),.string t',.slice VA' vl' vc',.int .u8 (code':Int),.bool bb',.slice KA' kl' kc',.complex .f64 (fb re') (fb im')]] wx (zcE LG wx):=fun wx h=>ca▸zdC _ ns' ks' NA' nl' nc' k' n' t' VA' vl' vc' code' bb' KA' kl' kc' re' im' wx zab hf h;rw[ca] at KX;have CJ:∀ (base:Nat) (A:Oz) (c:Nat) (wx:World),Ps wx (Lo base) ns' NA' nl' nc'→Ps wx (Lo base) ks' KA' kl' kc'→Utf.Own .u8 256 5 wx base A 0 c []→base≤wx.heap.size→Calls prog 54 #[.agg #[.slice NA' nl' nc',.int .u8 (k':Int),.int .u64 (n':Int),.string t',.slice VA' vl' vc',.int .u8 (code':Int),.bool bb',.slice KA' kl' kc',.complex .f64 (fb re') (fb im')],.slice A 0 c] wx (za6 base LY wx):=fun base A c wx h1 h2 h3 h4=>bu▸zp9 _ ns' ks' NA' nl' nc' k' n' t' VA' vl' vc' code' bb' KA' kl' kc' re' im' base A 0 c [] wx zab hf h1 h2 h3 h4 (by omega);rw[bu] at Jb;have CK:Hid (lay (plan (.mk k n t ks))=LY):=zaa (by rw[bl.out,bu]);obtain⟨CC,hmk,hoc⟩:=zl6 LG (by omega);have HX:=zaa hX;have XC:=zaa Vf;have HN4:=zaa hn;have Xx:=zaa kq;clear hX Vf hn kq ca bu hf bl;go_wp2_with fail;go_region_law (first
   | (go_simp;go_at_call 55;(with_reducible refine(qC W4.drew (HN4.out.call ((Below.refl _ _).drew))).mono ?_);rintro e w5 ⟨rfl,gp⟩;have vm:=zad ((Below.refl W4.heap.size W4).drew) gp;have j2:=zad XC.out vm;obtain⟨p0,p1,p2,p3,p4,p5,p6,p7,p8,pf⟩:=(HX.out.call vm).all;obtain⟨s0,s1,s2,s3,s4,s5,s6,s7,s8,sf⟩:=((HX.out.call vm).alloc (.cells CC 5)).all)
   | (go_simp;go_at_call 54;(with_reducible refine(CJ w5.heap.size _ LG (w5.alloc (.cells CC 5)) (zue (HN4.out.call vm) _) (zue (Xx.out.call vm) _) (hoc w5 _ zab) (by simp)).mono ?_);rintro e w6 ⟨A6,m6,c6,rfl,KQ,qm,_⟩))
  all_goals
   go_wp2;go_ret2;exact⟨A6,m6,c6,rfl,by rw[CK.out];exact KQ.mono j2.size,(j2.alloc j2.size _).trans (qm.mono j2.size)⟩
end Enc
end Go.Proofs.YtbbbanfggcediaaGreatDoor
