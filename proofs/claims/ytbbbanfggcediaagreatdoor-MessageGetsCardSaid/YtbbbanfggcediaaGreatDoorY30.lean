/- Contracts, each with its premises. -/
import Derived.Test.YtbbbanfggcediaaGreatDoorY29
set_option maxRecDepth 100000
set_option maxHeartbeats 8000000
namespace Go.Proofs.YtbbbanfggcediaaGreatDoor
open _root_.Go.Proofs.Tryz
open List renaming length_drop→ydc,eq_nil_of_length_eq_zero→yde,length_take→ydg,length_nil→ydh,drop_drop→ydi
open Bool renaming and_eq_true→ydb
open Go.RowKit.Below renaming heap_setCell→yda,heap_alloc→ydf
open Nat renaming lt_of_lt_of_le→yc9,le_trans→ydd
section
open Go Go.RowKit
theorem T5K{P:Program}{md:Region.Mode}{ops:Array Oper}{Q:Exit→Act→World→Prop}{S:World→Prop}(i:Nat)(oi:Oper)(v:Value){fuel:Nat}{listed:Array Bool}{a:Act}{w:World}(hi:ops[i]?=some oi)(hb:(Region.noSelect ops&&(Region.free md ops listed i&&((Region.ready md ops listed).contains i&&Region.wanted oi (yielded ops a.tmps))))=true)(hQ:∀ c a w,Q (.panic c) (a.put oi.dst v) w→Q (.panic c) a w)(hy:∀ w,S w→(execOp a.eval oi).run P w=.ok (.value v) w)(hS:S w)(h:wpAnyH P md ops Q S fuel (listed.setIfInBounds i true) (a.put oi.dst v) w):wpAnyH P md ops Q S (fuel+1) listed a w:=by
 simp only[ydb] at hb
 exact wpAnyH_take hi hb.1 hb.2.1 hb.2.2.1 hQ (Or.inl ⟨hb.2.2.2,hy⟩) hS h
theorem S5K{P:Program}{md:Region.Mode}{ops:Array Oper}{Q:Exit→Act→World→Prop}{S:World→Prop}(i:Nat)(oi:Oper){fuel:Nat}{listed:Array Bool}{a:Act}{w:World}(hi:ops[i]?=some oi)(hb:(Region.noSelect ops&&(Region.free md ops listed i&&((Region.ready md ops listed).contains i&&!Region.wanted oi (yielded ops a.tmps))))=true)(hQ:∀ c a w,Q (.panic c) (a.put oi.dst undef) w→Q (.panic c) a w)(hS:S w)(h:wpAnyH P md ops Q S fuel (listed.setIfInBounds i true) (a.put oi.dst undef) w):wpAnyH P md ops Q S (fuel+1) listed a w:=by
 simp only[ydb,Bool.not_eq_true'] at hb
 exact wpAnyH_take hi hb.1 hb.2.1 hb.2.2.1 hQ (Or.inr ⟨hb.2.2.2,rfl⟩) hS h
end
namespace Dec
open Go.RowKit Utf Val V
def zeV (R:Except Bool (List V×Nat×Lz))(N:Nat)(w:World)(e:Ending)(w':World):Prop:=
 match R with
 | .error s=>e=.returned (.tuple #[.slice none 0 0,.int .u8 0,.int .i64 0,.int .i64 ((sel s 7:Nat):Int)])∧Below w.heap.size w w'
 | .ok (ns,k,r)=>∃ An nn cn,e=.returned (.tuple #[.slice An nn cn,.int .u8 (k:Int),.int .i64 ((N - r.length:Nat):Int),.int .i64 0])∧Nw w.heap.size w' ns An nn cn∧Below w.heap.size w w'
theorem zeW {c:Nat}{l d r:Lz}(h:zaC c l=some (d,r)):(l.take (l.length - r.length)).drop (sw c)=d∧l.drop (l.length - r.length)=r∧sw c≤l.length - r.length∧r.length≤l.length:=by
 unfold zaC at h;by_cases h0:sw c=0
 ·rw[if_pos h0] at h;by_cases hl:lg c≤l.length
  ·rw[if_pos hl] at h;injection h with h
   injection h with h1 h2
   subst h1 h2;have e:l.length - (l.drop (lg c)).length=lg c:=by simp only[ydc];omega
   rw[e,h0];exact⟨rfl,rfl,Nat.zero_le _,by simp only[ydc];omega⟩
  ·rw[if_neg hl] at h;cases h
 ·rw[if_neg h0] at h;by_cases hl:sw c≤l.length
  ·rw[if_pos hl] at h;by_cases ht:tn (l.take (sw c))≤(l.drop (sw c)).length
   ·rw[if_pos ht] at h;injection h with h
    injection h with h1 h2
    subst h1 h2;obtain⟨T,hT⟩:∃ T,tn (l.take (sw c))=T:=⟨_,rfl⟩;rw[hT] at ht ⊢;simp only[ydc] at ht;have e:l.length - ((l.drop (sw c)).drop T).length=sw c+T:=by simp only[ydc];omega
    rw[e];exact⟨by rw[List.drop_take,Nat.add_sub_cancel_left],by rw[ydi],by omega,by simp only[ydc];omega⟩
   ·rw[if_neg ht] at h;cases h
  ·rw[if_neg hl] at h;cases h
theorem drop_cons {L l:Lz}{j k:Nat}(h:L.drop j=k::l):L[j]? = some k∧L.drop (j+1)=l∧j < L.length:=by
 have hj:j < L.length:=by
  refine Nat.lt_of_not_le fun hle=>?_;rw[List.drop_of_length_le hle] at h;cases h
 rw[List.drop_eq_getElem_cons hj] at h;injection h with h1 h2
 exact⟨by rw[List.getElem?_eq_getElem hj,h1],h2,hj⟩
theorem zh6 {c:Nat}{l d r:Lz}(h:zaC c l=some (d,r))(hc:c < 256)(hk:kof c≠0)(B:Nat)(A:Oz)(n m:Nat)(w:World)(hr:Rd .u8 256 w B A n l)(hm:n≤m)(hB:B≤w.heap.size)(hn:n≤1099511627776) :
  Calls prog 37 #[.int .u8 (c:Int),.slice A n m] w (fun e w'=>e=.returned (.tuple #[.int .i64 ((l.length - r.length:Nat):Int),.int .i64 0])∧Below w.heap.size w w'):=by
 have h2:=zjy c hc hk B A n m l w hr hm hB hn;unfold zbs at h2;rw[h] at h2;exact h2
theorem zh7 {c:Nat}{l:Lz}(h:zaC c l=none)(hc:c < 256)(hk:kof c≠0)(B:Nat)(A:Oz)(n m:Nat)(w:World)(hr:Rd .u8 256 w B A n l)(hm:n≤m)(hB:B≤w.heap.size)(hn:n≤1099511627776) :
  Calls prog 37 #[.int .u8 (c:Int),.slice A n m] w (fun e w'=>e=.returned (.tuple #[.int .i64 0,.int .i64 7])∧Below w.heap.size w w'):=by
 have h2:=zjy c hc hk B A n m l w hr hm hB hn;unfold zbs at h2;rw[h] at h2;exact h2
theorem zau {B:Nat}{w wc w9:World}{row:Option Nat}(hb:Below B w wc)(o:Obj)(hg:(wc.alloc o).grownBy w9 row)(Hr:∀ i,row=some i→B≤i)(hB:B≤wc.heap.size):Below B w w9:=
 have h1:=hb.alloc hB o
 ⟨hg.os.trans h1.os,hg.tape.trans h1.tape,hg.output.trans h1.output,ydd h1.size hg.size,fun i hi=>(hg.block i (by simp;omega) (fun e=>by have:=Hr i e.symm;omega)).trans (h1.block i hi)⟩
theorem zgw (L:Lz)(B:Nat)(A:Oz)(n m:Nat)(w:World)(hr:Rd .u8 256 w B A n L)(hB:B≤w.heap.size)(hm:n≤m)(hn:n≤1099511627776) :
  Calls prog 36 #[.slice A n m] w (zeV (headD L) L.length w):=by
 have jy:=hr.len;unfold headD;have v9:zaL (L.length+1) L=pre [] (zaL (L.length+1) L):=(pre_nil _).symm;obtain⟨R,hR⟩:∃ R,zaL (L.length+1) L=R:=⟨_,rfl⟩;rw[hR];rw[hR] at v9;have JH:=zaa v9;have HR:=zaa hR;have jA:=zaa hr;have Hw:=zaa hB;clear v9 hR hr hB;go_enter func36,ntmps36;go_wp2_with fail;go_loopg [6,7] (L.length+1) (fun g s6 s7 wr=>∃ all j An nn cn xs,j≤n∧nn≤j∧s7=.int .i64 ((j:Nat):Int)∧s6=.slice An nn cn∧n - j < g∧CS w.heap.size wr An nn cn all xs∧Below w.heap.size w wr∧R=pre all (zaL g (L.drop j)))
 case atStart=>exact⟨[],0,none,0,0,[],by omega,by omega,rfl,rfl,by omega,CS.nil _ _,Below.refl _ _,by rw[List.drop_zero,HR.out];exact JH.out⟩
 case round=>
  obtain⟨all,j,An,nn,cn,xs,hj,bK,rfl,rfl,hg,hS,jG,gJ⟩:=hrel;obtain⟨f,rfl⟩:∃ f,gk=f+1:=⟨gk - 1,by omega⟩;have Vn:=jA.out.below (jG.mono Hw.out);have gC:=zaa jG;have HRW:=zaa Vn;cases hL:L.drop j with
  | nil=>
   have uD:n≤j:=by have:=congrArg List.length hL;simp only[ydc,ydh] at this;omega
   have kF:R=.error true:=by rw[gJ,hL];rfl
   subst kF;have hd:decide ((n:Int)≤(j:Int))=true:=decide_eq_true (by omega);clear gJ hL jG Vn JH HR;go_wp2;refine bodyPost_ret (v:=.tuple #[.slice none 0 0,.int .u8 0,.int .i64 0,.int .i64 7]) (by simp[results,results36,go_sem]) rfl ?_;exact⟨rfl,gC.out⟩
  | cons k l=>
   obtain⟨hk,hl,uD⟩:=drop_cons hL;have hd:decide ((n:Int)≤(j:Int))=false:=decide_eq_false (by omega);obtain⟨b,o,k',rfl,hb,Gn,xR,Kx⟩:=Vn.at_ (k:=j) (by omega);obtain rfl:k'=k:=by rw[hk] at Gn;injection Gn with Gn;exact Gn.symm
   clear Gn;by_cases kB:k'=0
   ·have d0:((k':Int) != 0)=false:=by rw[kB];rfl
    cases l with
    | nil=>
     have kF:R=.error true:=by rw[gJ,hL];simp only[zaL,if_pos kB,za8,pre]
     subst kF;have CV:n≤j+1:=by have:=congrArg List.length hl;simp only[ydc,ydh] at this;omega
     have kM:decide ((n:Int)≤(j:Int)+1)=true:=decide_eq_true (by omega);clear gJ hL jG Vn JH HR hk kB hl;go_wp2;refine bodyPost_ret (v:=.tuple #[.slice none 0 0,.int .u8 0,.int .i64 0,.int .i64 7]) (by simp[results,results36,go_sem]) rfl ?_;exact⟨rfl,gC.out⟩
    | cons c1 l1=>
     obtain⟨gM,jv,CV⟩:=drop_cons hl;have kM:decide ((n:Int)≤(j:Int)+1)=false:=decide_eq_false (by omega);obtain⟨b2,o2,c2',xj,He,Js,GU,vV⟩:=Vn.at_ (k:=j+1) (by omega);obtain⟨rfl,rfl⟩:b2=b∧o2=o:=by injection xj with e;injection e with e1 e2;exact⟨e1.symm,e2.symm⟩
     obtain rfl:c2'=c1:=by rw[gM] at Js;injection Js with e;exact e.symm
     clear Js xj He;have HK:=zaa (fun w=>zat c2' GU w);by_cases qd:kof c2'=6∨kof c2'=21
     case neg=>
      have kF:R=.error false:=by rw[gJ,hL];simp only[zaL,if_pos kB,za8,if_neg qd,pre]
      subst kF;have dk6:((kof c2':Int) != 6)=true:=by simp;omega
      have dk21:((kof c2':Int) != 21)=true:=by simp;omega
      clear gJ hL jG Vn JH HR hk kB hl gM jv qd;go_wp2_with fail
      (with_reducible refine(HK.out _).mono ?_)
      rintro e w2 ⟨rfl,He⟩;have Gb:=zaa (zad gC.out He);clear He;go_wp2;refine bodyPost_ret (v:=.tuple #[.slice none 0 0,.int .u8 0,.int .i64 0,.int .i64 6]) (by simp[results,results36,go_sem]) rfl ?_;exact⟨rfl,Gb.out⟩
     case pos=>
      have Xj:kof c2'≠0:=by omega
      have GZ:(fun w=>zat c2' GU w)=(fun w=>zat c2' GU w):=rfl;clear GZ;have kq:∃ K:Nat,(K=6∨K=21)∧kof c2'=K:=⟨_,qd,rfl⟩;obtain⟨K,hK,cQ⟩:=kq;rw[cQ] at HK;have dkk:∀ x:Bool,True:=fun _=>trivial;clear dkk;obtain⟨A2,c2,GD,k7,gZ,Gk,gh⟩:=zb (some ⟨b2,o2,none⟩) n m (j+2) (by omega) hm;have qY:L.drop (j+2)=l1:=jv;have V0:Rd .u8 256 w B A2 (n - (j+2)) l1:=qY▸gh w B L jA.out;have V1:=fun W=>gZ W ((j:Int)+1+1) (by omega);have V3:=fun W=>Gk W ((j:Int)+1+1) (by omega);have Uk:=fun W=>gZ W ((j:Int)+2) (by omega);have Ul:=fun W=>Gk W ((j:Int)+2) (by omega);clear gZ Gk k7 gh;have w1:IntKind.i64.wrap ((j:Int)+1)=(j:Int)+1:=by simp[IntKind.wrap,IntKind.signed,IntKind.bits];omega
      have w2:IntKind.i64.wrap ((j:Int)+1+1)=(j:Int)+1+1:=by simp[IntKind.wrap,IntKind.signed,IntKind.bits];omega
      have i1:(0:Int)≤(j:Int)+1:=by omega
      have i2:(j:Int)+1 < (n:Int):=by omega
      cases gI:zaC c2' l1 with
      | none=>
       have kF:R=.error true:=by rw[gJ,hL];simp only[zaL,if_pos kB,za8,if_pos qd,gI,pre]
       subst kF;have j9:=zaa (fun w' (hb:Below w.heap.size w w')=>zh7 gI GU Xj B A2 (n - (j+2)) c2 w' (V0.below (hb.mono Hw.out)) GD (ydd Hw.out hb.size) (by omega));clear gJ hL jG Vn JH HR hk kB hl gM jv qY qd gI cQ V0 GD;rcases hK with rfl | rfl
       all_goals
        go_wp2_with fail
        (with_reducible refine(HK.out _).mono ?_)
        rintro e w2 ⟨rfl,He⟩;have Gb:=zaa (zad gC.out He);have Ks:=(He.cell (p:=⟨b2,o2+(j+1),none⟩) (yc9 hb (ydd Hw.out gC.out.size))).trans vV;clear He;go_wp2_with fail;go_region_held3 (fun wx=>wx.cell? ⟨b2,o2+(j+1),none⟩=some (.int .u8 (c2':Int))) (first | assumption | exact Ks | exact GI | fail) ((go_at_call 37;(with_reducible refine(j9.out _ (Gb.out.drew)).mono ?_);rintro e w3 ⟨rfl,Hj⟩;have Gv:=zaa (zad Gb.out.drew Hj);have GI:=(Hj.cell (p:=⟨b2,o2+(j+1),none⟩) (yc9 hb (ydd Hw.out Gb.out.size))).trans Ks;clear Hj))
        all_goals
         go_wp2;refine bodyPost_ret (v:=.tuple #[.slice none 0 0,.int .u8 0,.int .i64 0,.int .i64 7]) (by simp[results,results36,go_sem]) rfl ?_;exact⟨rfl,Gv.out⟩
      | some q=>
       obtain⟨d,r⟩:=q;obtain⟨GM,Gz,Gq,VI⟩:=zeW gI;have yL:l1.length=n - (j+2):=by rw[←qY,ydc];omega
       have KL:=fun w' (hb:Below w.heap.size w w')=>zh6 gI GU Xj B A2 (n - (j+2)) c2 w' (V0.below (hb.mono Hw.out)) GD (ydd Hw.out hb.size) (by omega);obtain⟨n1,Gm⟩:∃ n1,l1.length - r.length=n1:=⟨_,rfl⟩;rw[Gm] at GM Gz Gq KL;have j9:=zaa KL;have xS:n1≤n - (j+2):=by omega
       obtain⟨A3,c3,qO,Qi,Gp,GP,qx⟩:=zhf (some ⟨b2,o2,none⟩) n m (j+2) n1 (by omega) hm;have ju:Rd .u8 256 w B A3 n1 (l1.take n1):=by have:=qx w B L jA.out;rwa [qY] at this
       have ee:((j+2:Nat):Int)=(j:Int)+1+1:=by omega
       rw[ee] at Gp GP;have CW:∀ W:World,(Instr.slice 22 (.slice (some ⟨b2,o2,none⟩) n m) (some (.int .i64 ((j:Int)+1+1))) (some (.int .i64 ((j:Int)+1+1+(n1:Int)))) none).run prog W=.ok (.slice A3 n1 c3) W:=Gp;have CX:∀ W:World,(Instr.sliceAt 22 (.slice (some ⟨b2,o2,none⟩) n m) (some (.int .i64 ((j:Int)+1+1))) (some (.int .i64 ((j:Int)+1+1+(n1:Int)))) none).run prog W=.ok (.slice A3 n1 c3) W:=GP;have w3:IntKind.i64.wrap ((j:Int)+1+1+(n1:Int))=(j:Int)+1+1+(n1:Int):=by simp[IntKind.wrap,IntKind.signed,IntKind.bits];omega
       have GV:=zhl c2' d fun x hx=>by
        rw[←GM] at hx;exact ju.lim x (List.mem_of_mem_drop hx)
       obtain⟨vk,vn,vt,hv⟩:∃ vk vn vt,zag c2' d=.mk vk vn vt []:=by
        have Kf:=zbv c2' d;rcases hp:zag c2' d with ⟨k,n,t,ks⟩
        rw[hp] at Kf;exact⟨k,n,t,by rw[show ks=[] from Kf]⟩
       rw[hv] at GV;have Kb:vk < 256:=GV.kind;have kC:vn < 18446744073709551616:=GV.num;have qk:=zaa (fun w' (hb:Below w.heap.size w w')=>show Calls prog 69 #[.int .u8 (c2':Int),.slice A3 n1 c3] w' (zbc vk vn vt w') by
        have h:=zha c2' GU Xj (by omega) B A3 n1 c3 (l1.take n1) w' (ju.below (hb.mono Hw.out)) (ydd Hw.out hb.size) qO Gq;rw[GM,hv] at h;exact h)
       have VC:Hid (R=pre (all++[.mk vk vn vt []]) (zaL f (L.drop (j+2+n1)))):=zaa (by
        have e1:L.drop (j+2+n1)=r:=by rw[←ydi,qY,Gz]
        rw[e1,zkq,gJ,hL];simp only[zaL,if_pos kB,za8,if_pos qd,gI,hv];cases zaL f r<;>rfl)
       have HS:=zaa hS;obtain⟨i0,hi,gE,Hn,gb⟩:=info_parts zdb;have kZ:=jG.size;clear gJ hL jG Vn JH HR hk kB hl gM jv qY qd gI cQ V0 GD hS Gp GP qx ju hv GV GM Gz Gq VI qO Qi KL yL Gm ee;rcases hK with rfl | rfl
       all_goals
        go_wp2_with fail
        (with_reducible refine(HK.out _).mono ?_)
        rintro e w2 ⟨rfl,He⟩;have Gb:=zaa (zad gC.out He);have Qo:=zaa (HS.out.call He);have Ks:=(He.cell (p:=⟨b2,o2+(j+1),none⟩) (yc9 hb (ydd Hw.out gC.out.size))).trans vV;clear He;go_wp2_with fail;go_region_held3 (fun wx=>wx.cell? ⟨b2,o2+(j+1),none⟩=some (.int .u8 (c2':Int))) (first | assumption | exact Ks | exact GI | fail) ((go_at_call 37;(with_reducible refine(j9.out _ (Gb.out.drew)).mono ?_);rintro e w3 ⟨rfl,Hj⟩;have Gv:=zaa (zad Gb.out.drew Hj);have yZ:=zaa (Qo.out.drew.call Hj);have GI:=(Hj.cell (p:=⟨b2,o2+(j+1),none⟩) (yc9 hb (ydd Hw.out Gb.out.size))).trans Ks;clear Hj))
        all_goals
         go_upto_region 15 with fail
         have kY:Below w3.heap.size w3 (w3.alloc (.cells #[.int .u8 0,.int .u64 0,.string ⟨#[]⟩,.slice none 0 0] 43)).drew:=((Below.refl w3.heap.size w3).alloc zab _).drew;have a3:=fun o=>(((Below.refl w3.heap.size w3).drew.alloc zab o).cell (p:=⟨b2,o2+(j+1),none⟩) (yc9 hb (ydd Hw.out Gv.out.size))).trans GI;have a5:=fun o=>(((Below.refl w3.heap.size w3).alloc zab o).drew.cell (p:=⟨b2,o2+(j+1),none⟩) (yc9 hb (ydd Hw.out Gv.out.size))).trans GI;have HBZ:=zaa (zad Gv.out kY);have kI:=zaa (Box.new w3 (.int .u8 0) (.int .u64 0) (.string ⟨#[]⟩) (.slice none 0 0));have V4:b2 < w3.heap.size:=yc9 hb (ydd Hw.out Gv.out.size);go_cut [11] (fun s11 wx=>∃ g,s11=.pointer (some ⟨g,0,none⟩)∧Box wx g (.int .u8 (vk:Int)) (.int .u64 (vn:Int)) (.string vt) (.slice none 0 0)∧Below w3.heap.size w3 wx∧w3.heap.size≤g)
         case first=>
          go_region_held3 (fun wx=>wx.cell? ⟨b2,o2+(j+1),none⟩=some (.int .u8 (c2':Int))) (first | (with_reducible (first | assumption | exact a3 _ | exact a5 _ | exact a4 _ | exact s4 _ _ _ _ | fail)) | exact GI | fail) ((go_at_call 69;(first
           | ((with_reducible refine(qk.out _ (Gv.out.drew)).mono ?_);rintro e w4 ⟨rfl,gl⟩;have Gy:Below w3.heap.size w3 w4:=((Below.refl w3.heap.size w3).drew).trans gl;have yM:=(Gy.cell (p:=⟨b2,o2+(j+1),none⟩) V4).trans GI;have a4:=fun o=>((Gy.alloc Gy.size o).cell (p:=⟨b2,o2+(j+1),none⟩) V4).trans GI)
           | ((with_reducible refine(qk.out _ HBZ.out).mono ?_);rintro e w4 ⟨rfl,gl⟩;have Gy:Below w3.heap.size w3 w4:=kY.trans (gl.mono (by simp));have yM:=(Gy.cell (p:=⟨b2,o2+(j+1),none⟩) V4).trans GI;have hX4:=(show Box (w3.alloc (.cells #[.int .u8 0,.int .u64 0,.string ⟨#[]⟩,.slice none 0 0] 43)).drew w3.heap.size (.int .u8 0) (.int .u64 0) (.string ⟨#[]⟩) (.slice none 0 0) from kI.out).call gl;obtain⟨z0,z1,z2,z3,zf⟩:=hX4.all;have s4:=fun x0 x1 x2 x3=>((zae Gy (Nat.le_refl w3.heap.size) x0 x1 x2 x3).cell (p:=⟨b2,o2+(j+1),none⟩) V4).trans GI))))
          all_goals
           go_wp2_with fail;go_meet
           first
            | exact⟨_,rfl,Box.new w4 _ _ _ _,Gy.alloc Gy.size _,Gy.size⟩
            | exact⟨_,rfl,hX4.set4 _ _ _ _,zae Gy zab _ _ _ _,zab⟩
         case rest=>
          obtain⟨g11,rfl,hX5,vR,hg11⟩:=hcut;obtain⟨z0,z1,z2,z3,zf⟩:=hX5.all;have JE:=yZ.out.call vR;have VM:=zaa (zad Gv.out vR);have Jd:=VM.out.size;have Yq:=zaa JE;have Kv:=JE.own;have hcap5:=zbi Kv;clear JE vR hX5;go_wp2_with (at_builtin;refine wpList_append_lies _ rfl _ _ 41 rfl w.heap.size 43 i0 _ 4 56 underlying41 hi gE Hn gb rfl (by omega) _ _ _ rfl (Kv.alloc _) ⟨_,0,none⟩ 1 1 [.int .u8 (vk:Int),.int .u64 (vn:Int),.string vt,.slice none 0 0] rfl rfl (news4 _ _ _ _ _ _ _ (by simp)) (fun u hu=>(by simp at hu;rcases hu with rfl | rfl | rfl | rfl<;>rfl)) (by omega) (by unfold maxLen;omega) (by omega) (by simp;omega) _ rfl ?_;intro g9 cap9 w9 Hb Hd Hv _);go_roundg f
          case measure=>omega
          case rel=>exact⟨all++[.mk vk vn vt []],j+2+n1,_,_,_,_,by omega,by omega,by go_num,rfl,by omega,Yq.out.push Kb kC (Val.Kids.none_ _ _ _ _ _) _ rfl Hb Hd (Hv.imp id fun h=>by simp at h;omega),zau VM.out _ Hd (fun i e=>(Kv.lt i e).1) VM.out.size,VC.out⟩
   ·have d0:((k':Int) != 0)=true:=by simp;omega
    by_cases kq:kof k'=0
    ·have kF:R=.error false:=by rw[gJ,hL];simp only[zaL,if_neg kB,if_pos kq];rfl
     subst kF;have HK:=zaa (fun w=>zat k' xR w);rw[kq] at HK;clear gJ hL jG Vn JH HR hk kq hl kB;go_wp2_with fail
     (with_reducible refine(HK.out _).mono ?_)
     rintro e w2 ⟨rfl,He⟩;have Gb:=zaa (zad gC.out He);clear He;go_wp2;refine bodyPost_ret (v:=.tuple #[.slice none 0 0,.int .u8 0,.int .i64 0,.int .i64 6]) (by simp[results,results36,go_sem]) rfl ?_;exact⟨rfl,Gb.out⟩
    ·have kF:R=.ok (all,k',l):=by rw[gJ,hL];simp only[zaL,if_neg kB,if_neg kq,pre,List.append_nil]
     subst kF;have dk:((kof k':Int)==0)=false:=by simp;omega
     have HK:=zaa (fun w=>zat k' xR w);have HS:=zaa hS;have xC:Hid (L.length - l.length=j+1):=zaa (by rw[←hl];simp only[ydc];omega);clear gJ hL jG Vn JH HR hk kq hl kB hS;go_wp2_with fail
     (with_reducible refine(HK.out _).mono ?_)
     rintro e w2 ⟨rfl,He⟩;have Gb:=zaa (zad gC.out He);have Qo:=zaa (HS.out.call He);have Ks:=(He.cell (p:=⟨b,o+j,none⟩) (yc9 hb (ydd Hw.out gC.out.size))).trans Kx;clear He;go_wp2_with fail;go_region
     all_goals
      go_wp2_with fail;refine bodyPost_ret (v:=.tuple #[.slice An nn cn,.int .u8 (k':Int),.int .i64 ((j+1:Nat):Int),.int .i64 0]) (by simp[results,results36,go_sem]) rfl ?_;refine⟨An,nn,cn,by rw[xC.out],?_,Gb.out.drew⟩;exact Qo.out.drew.nw
theorem zq6 {w:World}{P P':Nat→Prop}{k n k' n':Nat}{t t':ByteArray}{ks ks':List V}{A A':Oz}{l c l' c':Nat}(hk:k < 256)(hn:n < 18446744073709551616)(Gn:k' < 256)(k8:n' < 18446744073709551616)
  (hK:Val.Kids true w P ks A l c) (gV:Val.Kids true w P ks' A' l' c') (hs:∀ i,P i→i < w.heap.size) (hP:∀ i,P i→P' i) (Kk:P' w.heap.size) :
  Val.Kids true (w.alloc (.cells #[.int .u8 k,.int .u64 n,.string t,.slice A l c,.int .u8 k',.int .u64 n',.string t',.slice A' l' c'] 43)) P' [.mk k n t ks,.mk k' n' t' ks'] (some ⟨w.heap.size,0,none⟩) 2 2:=by
 have kP:∀ i,P i→(w.alloc (.cells #[.int .u8 k,.int .u64 n,.string t,.slice A l c,.int .u8 k',.int .u64 n',.string t',.slice A' l' c'] 43)).heap[i]? = w.heap[i]?:=fun i hi=>ydf _ _ _ (hs i hi);refine⟨rfl,zab,fun _=>⟨w.heap.size,0,rfl,Kk,fun _=>⟨_,heap_alloc_new w _⟩,?_⟩⟩;refine⟨zbd.2 ⟨A,l,c,by simp,by simp,by simp,by simp,hk,hn,(hK.keep kP).mono hP⟩,zbd.2 ⟨A',l',c',by simp,by simp,by simp,by simp,Gn,k8,(gV.keep kP).mono hP⟩,trivial⟩
def Pz (B H:Nat)(w:World)(i:Nat):Prop:=B≤i∧i < w.heap.size∧i≠H∧i≠H+1
structure CI (B:Nat) (w wr:World) (v:V) (k n:Nat) (t:ByteArray) (ks:List V) (A:Oz) (l c:Nat):Prop where
 val:v=.mk k n t ks
 bx:Box wr w.heap.size (.int .u8 (k:Int)) (.int .u64 (n:Int)) (.string t) (.slice A l c)
 rs:Box wr (w.heap.size+1) (.int .u8 0) (.int .u64 0) (.string ⟨#[]⟩) (.slice none 0 0)
 kd:Val.Kids true wr (Pz B w.heap.size wr) ks A l c
 lim:k < 256∧n < 18446744073709551616
 low:Below w.heap.size w wr
def zke (B:Nat)(v:V)(w:World)(e:Ending)(w':World):Prop:=∃ k n t ks A l c,v=.mk k n t ks∧k < 256∧n < 18446744073709551616∧e=.returned (.agg #[.int .u8 (k:Int),.int .u64 (n:Int),.string t,.slice A l c])∧Nw B w' ks A l c∧Below w.heap.size w w'
theorem CI.drew {B:Nat}{w wr:World}{v:V}{k n:Nat}{t:ByteArray}{ks:List V}{A:Oz}{l c:Nat}(h:CI B w wr v k n t ks A l c):CI B w wr.drew v k n t ks A l c:=⟨h.val,h.bx,h.rs,(h.kd.keep (w':=wr.drew) fun _ _=>rfl).mono fun _ hi=>⟨hi.1,hi.2.1,hi.2.2⟩,h.lim,h.low.drew⟩
theorem CI.next {B:Nat}{w wr:World}{v:V}{k n:Nat}{t:ByteArray}{ks:List V}{A:Oz}{l c:Nat}(h:CI B w wr v k n t ks A l c)(hB:B≤w.heap.size){k' n':Nat}{t':ByteArray}{A':Oz}{c':Nat}(Gn:k' < 256)(k8:n' < 18446744073709551616)(w1:World)
  (hw:w1=((((wr.setCell ⟨w.heap.size,0,none⟩ (.int .u8 25)).setCell ⟨w.heap.size,1,none⟩ (.int .u64 0)).setCell ⟨w.heap.size,2,none⟩ (.string ⟨#[]⟩)).setCell ⟨w.heap.size,3,none⟩ (.slice (some ⟨wr.heap.size,0,none⟩) 2 2))) :
  CI B w (w1.alloc (.cells #[.int .u8 (k':Int),.int .u64 (n':Int),.string t',.slice A' 0 c',.int .u8 (k:Int),.int .u64 (n:Int),.string t,.slice A l c] 43)).drew (.mk 25 0 ⟨#[]⟩ [.mk k' n' t' [],v]) 25 0 ⟨#[]⟩ [.mk k' n' t' [],.mk k n t ks] (some ⟨wr.heap.size,0,none⟩) 2 2:=by
 have h1:=h.bx.lt;have h2:=h.rs.lt;have hb:=h.low.size;have gu:w1.heap.size=wr.heap.size:=by rw[hw];simp
 have gF:∀ i,i≠w.heap.size→w1.heap[i]? = wr.heap[i]?:=fun i Hp=>by
  rw[hw];exact(yda _ _ _ _ Hp).trans ((yda _ _ _ _ Hp).trans ((yda _ _ _ _ Hp).trans (yda _ _ _ _ Hp)))
 have Ha:Below w.heap.size w w1:=by rw[hw];exact zae h.low zab _ _ _ _
 have GJ:Box w1 w.heap.size (.int .u8 25) (.int .u64 0) (.string ⟨#[]⟩) (.slice (some ⟨wr.heap.size,0,none⟩) 2 2):=by rw[hw];exact h.bx.set4 _ _ _ _
 have Gc:Box w1 (w.heap.size+1) (.int .u8 0) (.int .u64 0) (.string ⟨#[]⟩) (.slice none 0 0):=(gF _ (by omega)).trans h.rs;have JU:Val.Kids true w1 (Pz B w.heap.size wr) ks A l c:=h.kd.keep fun i hi=>gF i hi.2.2.1;have JM:Below w1.heap.size w1 (w1.alloc (.cells #[.int .u8 (k':Int),.int .u64 (n':Int),.string t',.slice A' 0 c',.int .u8 (k:Int),.int .u64 (n:Int),.string t,.slice A l c] 43)):=(za _ _);have hP:=zq6 (P:=Pz B w.heap.size wr) (P':=Pz B w.heap.size (w1.alloc (.cells #[.int .u8 (k':Int),.int .u64 (n':Int),.string t',.slice A' 0 c',.int .u8 (k:Int),.int .u64 (n:Int),.string t,.slice A l c] 43))) (t:=t') (t':=t) (c:=c') (A:=A') Gn k8 h.lim.1 h.lim.2 (⟨rfl,Nat.zero_le _,fun h=>absurd h (by omega)⟩:Val.Kids true w1 (Pz B w.heap.size wr) [] A' 0 c') JU (fun i hi=>by rw[gu];exact hi.2.1) (fun i hi=>⟨hi.1,by simp;have:=hi.2.1;omega,hi.2.2⟩) ⟨by omega,by simp,by omega,by omega⟩;rw[gu] at hP;exact CI.drew ⟨by rw[h.val],GJ.call JM,Gc.call JM,hP,⟨by omega,by omega⟩,Ha.alloc (by omega) _⟩
theorem zcU {BN:Nat}(B:Nat)(ns:List V)(An:Oz)(nn cn:Nat)(k n:Nat)(t:ByteArray)(ks:List V)(A:Oz)(l c:Nat)(w:World)(hB:B≤w.heap.size)(hN:Nw BN w ns An nn cn)(hle:∀ x∈ns,x.kids=[])(JY:nn≤1099511627776)(hk:k < 256)(hn:n < 18446744073709551616)(hK:Nw B w ks A l c) :
  Calls prog 71 #[.slice An nn cn,.agg #[.int .u8 (k:Int),.int .u64 (n:Int),.string t,.slice A l c]] w (zke B (zap ns (.mk k n t ks)) w):=by
 have h2:Below w.heap.size w ((w.alloc (.cells #[.int .u8 (k:Int),.int .u64 (n:Int),.string t,.slice A l c] 43)).alloc (.cells #[.int .u8 0,.int .u64 0,.string ⟨#[]⟩,.slice none 0 0] 43)):=zaw w _ _;have hC:CI B w ((w.alloc (.cells #[.int .u8 (k:Int),.int .u64 (n:Int),.string t,.slice A l c] 43)).alloc (.cells #[.int .u8 0,.int .u64 0,.string ⟨#[]⟩,.slice none 0 0] 43)) (zap (ns.drop nn) (.mk k n t ks)) k n t ks A l c:=
  ⟨by rw[List.drop_of_length_le (by have:=hN.len;omega)];rfl,(Box.new w _ _ _ _).call ((za _ _)),Box.new2 w _ _ _ _ _,(hK.keep fun i hi=>h2.block i hi.2).mono fun i hi=>⟨hi.1,by simp;omega,by omega,by omega⟩,⟨hk,hn⟩,h2⟩
 obtain⟨v0,Vc⟩:∃ v0,V.mk k n t ks=v0:=⟨_,rfl⟩;rw[Vc] at hC ⊢;have HC:=zaa hC;have HN:=zaa hN;have HLE:=zaa hle;clear hC h2 hN hle hk hn hK;go_enter func71,ntmps71;go_wp2_with fail;go_loopw [5] (fun s wr=>∃ j:Nat,j≤nn∧s=.int .i64 ((j:Int) - 1)∧∃ k n t ks A l c,CI B w wr (zap (ns.drop j) v0) k n t ks A l c) (fun s _=>(intOf s+1).toNat)
 case atStart=>exact⟨nn,zab,rfl,_,_,_,_,_,_,_,HC.out⟩
 case round=>
  obtain⟨j,hj,rfl,k,n,t,ks,A,l,c,hS⟩:=hrel;obtain⟨d0,d1,d2,d3,df⟩:=hS.bx.all;obtain⟨z0,z1,z2,z3,zf⟩:=hS.rs.all;have h1:=hS.bx.lt;have h2:=hS.rs.lt;have HS:=zaa hS;clear HC hS;by_cases xV:j=0
  ·subst xV;go_wp2;refine bodyPost_ret (v:=.agg #[.int .u8 (k:Int),.int .u64 (n:Int),.string t,.slice A l c]) (by simp[results,results71,go_sem,z0,z1,z2,z3]) rfl ?_;have Qs:=HS.out.low.size;refine⟨k,n,t,ks,A,l,c,HS.out.val,HS.out.lim.1,HS.out.lim.2,rfl,(HS.out.kd.keep fun i hi=>?_).mono fun i hi=>⟨hi.1,by simpa using hi.2.1⟩,zae HS.out.low (by omega) _ _ _ _⟩;have Hp:=hi.2.2.2;exact(yda _ _ _ _ Hp).trans ((yda _ _ _ _ Hp).trans ((yda _ _ _ _ Hp).trans (yda _ _ _ _ Hp)))
  ·obtain⟨i,rfl⟩:∃ i,j=i+1:=⟨j - 1,by omega⟩;have hin:i < nn:=by omega
   obtain⟨b,o,k',n',t',ks',A',l',c',rfl,Yx,hx,e0,e1,e2,e3,Gn,k8,hKn⟩:=HN.out.at_ hin;obtain rfl:ks'=[]:=HLE.out _ (List.mem_of_getElem? hx);obtain rfl:l'=0:=hKn.len;have f0:=(HS.out.low.cell (p:=⟨b,o+i * 4,none⟩) Yx.2).trans e0;have f1:=(HS.out.low.cell (p:=⟨b,o+i * 4+1,none⟩) Yx.2).trans e1;have f2:=(HS.out.low.cell (p:=⟨b,o+i * 4+2,none⟩) Yx.2).trans e2;have f3:=(HS.out.low.cell (p:=⟨b,o+i * 4+3,none⟩) Yx.2).trans e3;have js:Hid (zap (ns.drop i) v0=.mk 25 0 ⟨#[]⟩ [.mk k' n' t' [],zap (ns.drop (i+1)) v0]):=zaa (by
    obtain⟨hi,uC⟩:=List.getElem?_eq_some_iff.1 hx;rw[List.drop_eq_getElem_cons hi,uC];rfl)
   have hcast:((i+1:Nat):Int) - 1=(i:Int):=by omega
   have i1:(0:Int)≤(i:Int):=by omega
   have i2:(i:Int) < (nn:Int):=by omega
   have hPb2:=Yx.2;have qX:b≠w.heap.size:=by omega
   have jR:=zaa (HS.out.next hB (t':=t') (A':=A') (c':=c') Gn k8 _ rfl);clear hx hKn e0 e1 e2 e3 Yx;go_wp2_with fail;go_region
   all_goals
    go_wp2_with fail;go_roundw
    case rel=>exact⟨i,by omega,by go_num,_,_,_,_,_,_,_,js.out▸jR.out⟩
    case measure=>simp[intOf]
theorem zjA:∀ (N:Nat) (l:Lz) (ns:List V) (c:Nat) (r:Lz),zaL N l=.ok (ns,c,r)→ns.length+r.length+1≤l.length
 | 0,_,_,_,_,h=>by simp[zaL] at h
 | _+1,[],_,_,_,h=>by simp[zaL] at h
 | N+1,c::l,ns,c',r,h=>by
  rw[zaL] at h;by_cases hc:c=0
  ·rw[if_pos hc] at h;cases hn:za8 l with
   | error s=>rw[hn] at h;cases h
   | ok p=>
    obtain⟨v,r1⟩:=p;rw[hn] at h;simp only at h;have hl:=zes hn;cases h2:zaL N r1 with
    | error s=>rw[h2] at h;cases h
    | ok q=>
     obtain⟨ns2,c2,r2⟩:=q;rw[h2] at h;injection h with h
     injection h with h3 h4
     injection h4 with h4 h5
     subst h3 h5;have:=zjA N r1 ns2 c2 r2 h2;simp only[List.length_cons];omega
  ·rw[if_neg hc] at h;by_cases hk:kof c=0
   ·rw[if_pos hk] at h;cases h
   ·rw[if_neg hk] at h;injection h with h
    injection h with h3 h4
    injection h4 with h4 h5
    subst h3 h5;simp
def zbt (o:Option V)(w:World)(e:Ending)(w':World):Prop:=∃ k n t ks A l c b,e=.returned (.tuple #[.agg #[.int .u8 ((k:Nat):Int),.int .u64 ((n:Nat):Int),.string t,.slice A l c],.bool b])∧k < 256∧n < 18446744073709551616∧Nw w.heap.size w' ks A l c∧Below w.heap.size w w' ∧
 (match o with
  | some v=>b=true∧v=.mk k n t ks
  | none=>b=false)
def zkf (F:Nat):Prop:=∀ (c:Nat) (B:Nat) (A:Oz) (n m:Nat) (l:Lz) (w:World),c < 256→kof c≠0→Rd .u8 256 w B A n l→B≤w.heap.size→n≤m→n≤1099511627776→sw c≤n→l.length < F→(c=69→l=[])→Calls prog 69 #[.int .u8 (c:Int),.slice A n m] w (zbt (zaI F [] c (l.drop (sw c))) w)
def zhb (R:Except Bool (V×Lz))(N:Nat)(w:World)(e:Ending)(w':World):Prop:=∃ k n t ks A l c q b,e=.returned (.tuple #[.agg #[.int .u8 ((k:Nat):Int),.int .u64 ((n:Nat):Int),.string t,.slice A l c],.int .i64 q,.bool b])∧k < 256∧n < 18446744073709551616∧Nw w.heap.size w' ks A l c∧Below w.heap.size w w' ∧
 (match R with
  | .ok (v,r)=>b=true∧v=.mk k n t ks∧q=((N - r.length:Nat):Int)
  | .error _=>b=false)
theorem zcw (F:Nat)(ns:List V)(c:Nat)(d:Lz):zaI F ns c d=(zaI F [] c d).map (zap ns):=by
 cases F with
 | zero=>rfl
 | succ F=>
  rw[zaI,zaI];by_cases h:kof c < 22
  ·rw[if_pos h,if_pos h];rfl
  ·rw[if_neg h,if_neg h];cases zbH (zaI F) c d with
   | none=>rfl
   | some vs=>rfl
theorem zlo {l:Lz}{s:Bool}{F:Nat}(h:valX (zaI F) l=.error s){q:Int}{w w':World}(hb:Below w.heap.size w w'):zhb (valX (zaI F) l) l.length w (.returned (.tuple #[.agg #[.int .u8 0,.int .u64 0,.string ⟨#[]⟩,.slice none 0 0],.int .i64 q,.bool false])) w':=by
 rw[h];exact⟨0,0,⟨#[]⟩,[],none,0,0,q,false,rfl,by omega,by omega,Val.Kids.none_ _ _ _ _ _,hb,rfl⟩
theorem zuY {c:Nat}(h:kof c≠0):c < 256:=by
 refine Nat.lt_of_not_le fun hc=>h ?_;unfold kof kof2
 repeat (rw[if_neg (by omega)])
theorem zq7 {l r:Lz}{v:V}(h:za8 l=.ok (v,r)):∃ p,l=p++r:=by
 cases l with
 | nil=>cases h
 | cons c l=>
  simp only[za8] at h;by_cases hk:kof c=6∨kof c=21
  ·rw[if_pos hk] at h;cases hd:zaC c l with
   | none=>rw[hd] at h;cases h
   | some p=>
    obtain⟨d,r'⟩:=p;rw[hd] at h;injection h with h
    injection h with h1 h2
    subst h2;obtain⟨q,hq⟩:=zeX hd;exact⟨c::(q++d),by rw[hq];rfl⟩
  ·rw[if_neg hk] at h;cases h
theorem zjB:∀ (N:Nat) (l:Lz) (ns:List V) (c:Nat) (r:Lz),zaL N l=.ok (ns,c,r)→∃ p,l=p++r
 | 0,_,_,_,_,h=>by simp[zaL] at h
 | _+1,[],_,_,_,h=>by simp[zaL] at h
 | N+1,c::l,ns,c',r,h=>by
  rw[zaL] at h;by_cases hc:c=0
  ·rw[if_pos hc] at h;cases hn:za8 l with
   | error s=>rw[hn] at h;cases h
   | ok p=>
    obtain⟨v,r1⟩:=p;rw[hn] at h;simp only at h;obtain⟨p1,QL⟩:=zq7 hn;cases h2:zaL N r1 with
    | error s=>rw[h2] at h;cases h
    | ok q=>
     obtain⟨ns2,c2,r2⟩:=q;rw[h2] at h;injection h with h
     injection h with h3 h4
     injection h4 with h4 h5
     subst h5;obtain⟨p2,Jn⟩:=zjB N r1 ns2 c2 r2 h2;exact⟨c::(p1++p2),by rw[QL,Jn];simp⟩
  ·rw[if_neg hc] at h;by_cases hk:kof c=0
   ·rw[if_pos hk] at h;cases h
   ·rw[if_neg hk] at h;injection h with h
    injection h with h3 h4
    injection h4 with h4 h5
    subst h5;exact⟨[c],rfl⟩
theorem zoV {r d r':Lz}(h:zaC 69 r=some (d,r')):r.length - r'.length=0:=by
 have e:zaC 69 r=some (r.take 0,r.drop 0):=by unfold zaC;rw[if_pos (by decide),if_pos (by show lg 69≤r.length;rw[show lg 69=0 by decide];omega),show lg 69=0 by decide]
 rw[e] at h;injection h with h
 injection h with h1 h2
 rw[←h2];simp
theorem zdN {l:Lz}{ns:List V}{c:Nat}{r:Lz}(h:headD l=.ok (ns,c,r)):ns.length+r.length+1≤l.length∧l.drop (l.length - r.length)=r∧kof c≠0∧c < 256:=by
 obtain⟨p,hp⟩:=zjB _ _ _ _ _ h;have h2:=zbu _ _ _ _ _ h;refine⟨zjA _ _ _ _ _ h,?_,h2.2.2,zuY h2.2.2⟩;have e:l.length - r.length=p.length:=by have:=congrArg List.length hp;simp only[List.length_append] at this;omega
 rw[e,hp,List.drop_left]
theorem zjC {F:Nat}(hR:zkf F)(B:Nat)(A:Oz)(n m:Nat)(l:Lz)(w:World)(hr:Rd .u8 256 w B A n l)(hB:B≤w.heap.size)(hm:n≤m)(hn:n≤1099511627776)(hF:l.length≤F) :
  Calls prog 38 #[.slice A n m] w (zhb (valX (zaI F) l) l.length w):=by
 have jy:=hr.len;have Hg:Below w.heap.size w (w.alloc (.cells #[.int .u8 0,.int .u64 0,.string ⟨#[]⟩,.slice none 0 0] 43)):=(za _ _);have Qf:Rd .u8 256 (w.alloc (.cells #[.int .u8 0,.int .u64 0,.string ⟨#[]⟩,.slice none 0 0] 43)) B A n l:=hr.below (Hg.mono hB);have JS:=zgw l B A n m _ Qf (ydd hB Hg.size) hm hn;have gG:=zaa (Box.new w (.int .u8 0) (.int .u64 0) (.string ⟨#[]⟩) (.slice none 0 0));have gD:=zaa Hg;have jA:=zaa hr;have Hw:=zaa hB;clear Hg hr Qf hB;cases hh:headD l with
 | error s=>
  rw[hh] at JS;have hv:valX (zaI F) l=.error s:=by unfold valX;rw[hh]
  have HW:=zaa (fun q (w w':World) hb=>@zlo l s F hv q w w' hb);have HC:=zaa JS;have hs:((((sel s 7:Nat):Int)) != 0)=true:=by cases s<;>rfl
  obtain⟨S,hS⟩:∃ S:Int,((sel s 7:Nat):Int)=S:=⟨_,rfl⟩;rw[hS] at hs;clear JS hh hv;go_enter func38,ntmps38;go_wp2_with fail
  (with_reducible refine HC.out.mono ?_)
  rintro e w1 ⟨rfl,Ha⟩;obtain⟨d0,d1,d2,d3,df⟩:=(gG.out.call Ha).all;have Hl:=zaa (zad gD.out Ha);clear Ha;rw[hS];go_wp2;refine bodyPost_ret (v:=.tuple #[.agg #[.int .u8 0,.int .u64 0,.string ⟨#[]⟩,.slice none 0 0],.int .i64 0,.bool false]) (by simp[results,results38,go_sem,d0,d1,d2,d3]) rfl ?_;exact HW.out _ _ _ (zae Hl.out zab _ _ _ _)
 | ok p=>
  obtain⟨ns,c,r⟩:=p;rw[hh] at JS;obtain⟨hlen,js,hk,hc⟩:=zdN hh;have jD:=zdx hh;obtain⟨at_,gT⟩:∃ a,l.length - r.length=a:=⟨_,rfl⟩;rw[gT] at js;have Um:Calls prog 36 #[.slice A n m] (w.alloc (.cells #[.int .u8 0,.int .u64 0,.string ⟨#[]⟩,.slice none 0 0] 43)) (fun e w'=>∃ An nn cn,e=.returned (.tuple #[.slice An nn cn,.int .u8 (c:Int),.int .i64 (at_:Int),.int .i64 0])∧Nw (w.alloc (.cells #[.int .u8 0,.int .u64 0,.string ⟨#[]⟩,.slice none 0 0] 43)).heap.size w' ns An nn cn∧Below (w.alloc (.cells #[.int .u8 0,.int .u64 0,.string ⟨#[]⟩,.slice none 0 0] 43)).heap.size (w.alloc (.cells #[.int .u8 0,.int .u64 0,.string ⟨#[]⟩,.slice none 0 0] 43)) w'):=by
   unfold zeV at JS;rw[←gT];exact JS
  have HC:=zaa Um;have hle:at_≤n:=by omega
  obtain⟨A2,c2,GD,k7,gZ,Gk,gh⟩:=zb A n m at_ hle hm;have kG:Rd .u8 256 w B A2 (n - at_) r:=js▸gh w B l jA.out;have V1:=fun W=>gZ W (at_:Int) rfl;have V3:=fun W=>Gk W (at_:Int) rfl;have hrlen:r.length=n - at_:=by omega
  clear gZ Gk k7 gh JS Um;cases gI:zaC c r with
  | none=>
   have hv:valX (zaI F) l=.error true:=by unfold valX;rw[hh];simp only;rw[gI]
   have HW:=zaa (fun q (w w':World) hb=>@zlo l true F hv q w w' hb);have j9:=zaa (fun w' (hb:Below w.heap.size w w')=>zh7 gI hc hk B A2 (n - at_) c2 w' (kG.below (hb.mono Hw.out)) GD (ydd Hw.out hb.size) (by omega));clear hh hv gI kG GD js gT jD hk;go_enter func38,ntmps38;go_wp2_with fail
   (with_reducible refine HC.out.mono ?_)
   rintro e w1 ⟨An,nn,cn,rfl,JO,Ha⟩;have kR:=zaa (gG.out.call Ha);have Hl:=zaa (zad gD.out Ha);clear Ha JO;go_wp2_with fail
   (with_reducible refine(j9.out _ Hl.out).mono ?_)
   rintro e w2 ⟨rfl,He⟩;obtain⟨d0,d1,d2,d3,df⟩:=(kR.out.call He).all;have Gb:=zaa (zad Hl.out He);clear He;go_wp2;refine bodyPost_ret (v:=.tuple #[.agg #[.int .u8 0,.int .u64 0,.string ⟨#[]⟩,.slice none 0 0],.int .i64 0,.bool false]) (by simp[results,results38,go_sem,d0,d1,d2,d3]) rfl ?_;exact HW.out _ _ _ (zae Gb.out zab _ _ _ _)
  | some q=>
   obtain⟨d,r'⟩:=q;obtain⟨GM,Gz,Gq,VI⟩:=zeW gI;have KL:=fun w' (hb:Below w.heap.size w w')=>zh6 gI hc hk B A2 (n - at_) c2 w' (kG.below (hb.mono Hw.out)) GD (ydd Hw.out hb.size) (by omega);obtain⟨n1,Gm⟩:∃ n1,r.length - r'.length=n1:=⟨_,rfl⟩;rw[Gm] at GM Gz Gq KL;have j9:=zaa KL;have xS:at_+n1≤n:=by omega
   obtain⟨A3,c3,qO,Qi,Gp,GP,qx⟩:=zhf A n m at_ n1 xS hm;have ju:Rd .u8 256 w B A3 n1 (r.take n1):=by have:=qx w B l jA.out;rwa [js] at this
   have CW:∀ W:World,(Instr.slice 22 (.slice A n m) (some (.int .i64 (at_:Int))) (some (.int .i64 ((at_:Int)+(n1:Int)))) none).run prog W=.ok (.slice A3 n1 c3) W:=Gp;have CX:∀ W:World,(Instr.sliceAt 22 (.slice A n m) (some (.int .i64 (at_:Int))) (some (.int .i64 ((at_:Int)+(n1:Int)))) none).run prog W=.ok (.slice A3 n1 c3) W:=GP;have w3:IntKind.i64.wrap ((at_:Int)+(n1:Int))=(at_:Int)+(n1:Int):=by simp[IntKind.wrap,IntKind.signed,IntKind.bits];omega
   have qk:=zaa (fun w' (hb:Below w.heap.size w w')=>show Calls prog 69 #[.int .u8 (c:Int),.slice A3 n1 c3] w' (zbt (zaI F [] c d) w') by
    have h:=hR c B A3 n1 c3 (r.take n1) w' hc hk (ju.below (hb.mono Hw.out)) (ydd Hw.out hb.size) qO (by omega) Gq (by simp only[ydg];omega) (fun e=>by subst e;have:=zoV gI;rw[Gm] at this;rw[this];rfl);rw[GM] at h;exact h)
   have Jt:valX (zaI F) l=(match (zaI F [] c d).map (zap ns) with
     | none=>.error false
     | some v=>.ok (v,r')):=by unfold valX;rw[hh];simp only;rw[gI];simp only;rw[zcw];rfl
   obtain⟨o,ho⟩:∃ o,zaI F [] c d=o:=⟨_,rfl⟩;rw[ho] at qk Jt;have HV:=zaa Jt;have vS:=zaa jD;have hq:l.length - r'.length=at_+n1:=by omega
   have HQ:=zaa hq;have yD:ns.length≤1099511627776:=by omega
   clear hh Jt gI kG GD js gT jD hk Gp GP qx ju GM Gz Gq VI Gm KL ho qO Qi hq;go_enter func38,ntmps38;go_wp2_with fail
   (with_reducible refine HC.out.mono ?_)
   rintro e w1 ⟨An,nn,cn,rfl,JO,Ha⟩;have kR:=zaa (gG.out.call Ha);have Hl:=zaa (zad gD.out Ha);obtain rfl:=JO.len;simp only[World.size_alloc] at JO;have Hn:=Ha.size;simp only[World.size_alloc] at Hn;have QG:=zaa JO;clear Ha JO;go_wp2_with fail
   (with_reducible refine(j9.out _ Hl.out).mono ?_)
   rintro e w2 ⟨rfl,He⟩;have CY:=He.size;have kL:=zaa (kR.out.call He);have Gb:=zaa (zad Hl.out He);have Vi:=zaa (QG.out.call He);clear He;go_wp2_with fail
   (with_reducible refine(qk.out _ Gb.out).mono ?_)
   rintro e w3' ⟨vk,vn,vt,vks,vA,vl,vc,vb,rfl,Kb,kC,j7,Hj,Qv⟩;have j8:=zaa ((kL.out.call Hj).call ((Below.refl _ _).alloc zab (.cells #[.int .u8 (vk:Int),.int .u64 (vn:Int),.string vt,.slice vA vl vc] 43)));have Gv:=zaa (zad Gb.out Hj);have VF:=zaa ((Vi.out.call Hj).call ((Below.refl _ _).alloc zab (.cells #[.int .u8 (vk:Int),.int .u64 (vn:Int),.string vt,.slice vA vl vc] 43)));have gb:=Gb.out.size;have jn:=Gv.out.size;have xE:=zaa ((j7.call ((Below.refl _ _).alloc zab (.cells #[.int .u8 (vk:Int),.int .u64 (vn:Int),.string vt,.slice vA vl vc] 43))).less (B':=w.heap.size+1) (by omega));have HVM:=zaa Qv;clear Hj j7 Qv;go_wp2_with fail
   (with_reducible refine(zcU (w.heap.size+1) ns An ns.length cn vk vn vt vks vA vl vc _ (by simp;omega) VF.out vS.out yD Kb kC xE.out).mono ?_)
   rintro e w5 ⟨rk,rn,rt,rks,rA,rl,rc,XJ,jN,J3,rfl,jW,gp⟩;obtain⟨d0,d1,d2,d3,df⟩:=(j8.out.call gp).all;have VM:=zaa (zad (Gv.out.alloc Gv.out.size (.cells #[.int .u8 (vk:Int),.int .u64 (vn:Int),.string vt,.slice vA vl vc] 43)) gp);have ku:=zaa jW;have HRV:=zaa XJ;clear gp jW XJ;go_wp2;refine bodyPost_ret (v:=.tuple #[.agg #[.int .u8 (rk:Int),.int .u64 (rn:Int),.string rt,.slice rA rl rc],.int .i64 ((at_:Int)+(n1:Int)),.bool vb]) (by simp[results,results38,go_sem,d0,d1,d2,d3]) rfl ?_;refine⟨rk,rn,rt,rks,rA,rl,rc,_,vb,rfl,jN,J3,(ku.out.far4 (g:=w.heap.size) (by omega) _ _ _ _).less (by omega),zae VM.out zab _ _ _ _,?_⟩;rw[HV.out];cases o with
   | none=>exact HVM.out
   | some v0=>
    obtain⟨h1,h2⟩:=HVM.out;refine⟨h1,by rw[h2];exact HRV.out,by rw[HQ.out];simp⟩
theorem zrz {B:Nat}{wr w':World}{A:Oz}{n c:Nat}{done:List V}{xs:List Value}(h:CS B wr A n c done xs)(hk:∀ i,B≤i→w'.heap[i]? = wr.heap[i]?)(hs:w'.heap.size=wr.heap.size):CS B w' A n c done xs:=by
 refine⟨⟨h.own.1,?_⟩,(h.cells.keep fun i hi=>hk i hi.1).mono fun i hi=>⟨hi.1,by rw[hs];exact hi.2.1,hi.2.2⟩⟩;rcases h.own.2 with hn | ⟨g,cap,cur,hv,hb,xa,gP⟩
 ·exact .inl hn
 ·exact .inr ⟨g,cap,cur,hv,hb,(hk g hb).trans xa,gP⟩
theorem zjD (tl:List V→Nat→Lz→Option V)(l:Lz):zeT tl l=(match valX tl l with | .error _=>none | .ok x=>some x):=by
 unfold zeT valX;cases headD l with
 | error s=>rfl
 | ok p=>
  obtain⟨ns,c,r⟩:=p;simp only;cases zaC c r with
  | none=>rfl
  | some q=>
   obtain⟨d,r'⟩:=q;simp only;cases tl ns c d with
   | none=>rfl
   | some v=>rfl
def preX (done:List V)(R:Option (List V×Lz)):Option (List V×Lz):=R.map fun p=>(done++p.1,p.2)
theorem zlp (R:Option (List V×Lz)):preX [] R=R:=by cases R<;>rfl
theorem zjE {step:Lz→Option (V×Lz)}{m:Nat}{l r:Lz}{v:V}(done:List V)(h:step l=some (v,r)):preX done (zbF step (m+1) l)=preX (done++[v]) (zbF step m r):=by
 rw[zbF,h];simp only;cases zbF step m r with
 | none=>rfl
 | some q=>simp[preX]
theorem zgx {step:Lz→Option (V×Lz)}{m:Nat}{l:Lz}(done:List V)(h:step l=none):preX done (zbF step (m+1) l)=none:=by
 rw[zbF,h];rfl
theorem zlq {w:World}{g:Nat}{x0 x1 x2 x3:Value}(h:Box w g x0 x1 x2 x3)(y:Value):Box (w.setCell ⟨g,3,none⟩ y) g x0 x1 x2 y:=by
 have hg:=h.lt;have hh:w.heap[g]=.cells #[x0,x1,x2,x3] 43 (0,0):=(Array.getElem?_eq_some_iff.1 h).2
 show (w.setCell ⟨g,3,none⟩ y).heap[g]? = some (.cells #[x0,x1,x2,y] 43 (0,0))
 simp[World.setCell,hg,Array.getElem_modify,hh]
structure MI (w wr:World) (K:Nat) (An:Oz) (nn cn:Nat) (done:List V) (xs:List Value):Prop where
 bx:Box wr w.heap.size (.int .u8 (K:Int)) (.int .u64 0) (.string ⟨#[]⟩) (.slice An nn cn)
 rs:Box wr (w.heap.size+1) (.int .u8 0) (.int .u64 0) (.string ⟨#[]⟩) (.slice none 0 0)
 row:CS (w.heap.size+2) wr An nn cn done xs
 low:Below w.heap.size w wr
section
variable {w wr w':World} {K:Nat} {An:Oz} {nn cn:Nat} {done:List V} {xs:List Value}
theorem MI.call (h:MI w wr K An nn cn done xs)(hb:Below wr.heap.size wr w'):MI w w' K An nn cn done xs:=⟨h.bx.call hb,h.rs.call hb,h.row.call hb,zad h.low hb⟩
theorem MI.more (h:MI w wr K An nn cn done xs){k n:Nat}{t:ByteArray}{ks:List V}{A:Oz}{l c:Nat}(hk:k < 256)(hn:n < 18446744073709551616)(hK:Val.Kids true wr (fun i=>w.heap.size+2≤i∧i < wr.heap.size∧(Value.slice An nn cn).ownBlock≠some i) ks A l c){g cap:Nat}{w9:World}(o:Obj)
  (Hf:w9.ownsRow (w.heap.size+2) 43 4 (.slice (some ⟨g,0,none⟩) (nn+1) cap) (nn+1) (xs++[.int .u8 (k:Int),.int .u64 (n:Int),.string t,.slice A l c])) (hg:(wr.alloc o).grownBy w9 (Value.slice An nn cn).ownBlock) (gT:(Value.slice An nn cn).ownBlock=some g∨wr.heap.size≤g) :
  MI w (w9.setCell ⟨w.heap.size,3,none⟩ (.slice (some ⟨g,0,none⟩) (nn+1) cap)) K (some ⟨g,0,none⟩) (nn+1) cap (done++[.mk k n t ks]) (xs++[.int .u8 (k:Int),.int .u64 (n:Int),.string t,.slice A l c]):=by
 have h1:=h.bx.lt;have h2:=h.rs.lt;have Hr:=h.row.own.lt;have Qs:=h.low.size;have hold:∀ i,i < w.heap.size+2→w9.heap[i]? = wr.heap[i]?:=fun i hi=>
  (hg.block i (by simp;omega) (fun e=>by have:=(Hr i e.symm).1;omega)).trans (ydf _ _ _ (by omega))
 have Ki:=h.row.push hk hn hK o rfl Hf hg gT;refine⟨?_,?_,zrz Ki (fun i hi=>yda _ _ _ _ (by simp only;omega)) (by simp),(zau h.low o hg (fun i e=>by have:=(Hr i e).1;omega) (by omega)).setCell (p:=⟨w.heap.size,3,none⟩) zab _⟩
 ·have kr:Box w9 w.heap.size (.int .u8 (K:Int)) (.int .u64 0) (.string ⟨#[]⟩) (.slice An nn cn):=(hold _ (by omega)).trans h.bx;exact zlq kr _
 ·exact(yda _ _ _ _ (by simp)).trans ((hold _ (by omega)).trans h.rs)
end
theorem zoW {tl:List V→Nat→Lz→Option V}{l r:Lz}{v:V}(h:valX tl l=.ok (v,r)):l.drop (l.length - r.length)=r∧r.length≤l.length:=by
 unfold valX at h;cases hh:headD l with
 | error s=>rw[hh] at h;cases h
 | ok p=>
  obtain⟨ns,c,r1⟩:=p;obtain⟨h1,h2,_,_⟩:=zdN hh;rw[hh] at h;simp only at h;cases hd:zaC c r1 with
  | none=>rw[hd] at h;cases h
  | some q=>
   obtain⟨d,r2⟩:=q;obtain⟨_,h3,_,h4⟩:=zeW hd;rw[hd] at h;simp only at h;cases ht:tl ns c d with
   | none=>rw[ht] at h;cases h
   | some v2=>
    rw[ht] at h;injection h with h
    injection h with h5 h6
    subst h6;refine⟨?_,by omega⟩;have e:l.length - r2.length=(l.length - r1.length)+(r1.length - r2.length):=by omega
    rw[e,←ydi,h2,h3]
theorem zmf:∀ c < 256,(kof c=22∨kof c=23)→c≠69→192≤c:=by decide
theorem zmg {tl:List V→Nat→Lz→Option V}{c:Nat}{d:Lz}(jJ:kof c≠24)(h:¬ (d.length < sw c∨1024 < tn (d.take (sw c)))):zbH tl c d=endX (zbF (zeT tl) (tn (d.take (sw c))) (d.drop (sw c))):=by
 unfold zbH;rw[if_neg (fun e=>h (.inl e)),if_neg (fun e=>h (.inr e)),if_neg jJ]
theorem zhc {tl:List V→Nat→Lz→Option V}{c:Nat}{d:Lz}(h:d.length < sw c∨1024 < tn (d.take (sw c))):zbH tl c d=none:=by
 unfold zbH;by_cases h1:d.length < sw c
 ·rw[if_pos h1]
 ·rw[if_neg h1,if_pos (h.resolve_left h1)]
theorem zlr {F:Nat}(hR:zkf F)(K:Nat)(hK:K=22∨K=23)(c:Nat)(hc:c < 256)(hk:kof c=K)(B:Nat)(A:Oz)(n m:Nat)(l:Lz)(w:World)(hr:Rd .u8 256 w B A n l)(hB:B≤w.heap.size)(hm:n≤m)(hn:n≤1099511627776)(Hu:sw c≤n)(hF:l.length≤F)(Je:c=69→l=[]) :
  Calls prog 117 #[.agg #[.int .u8 (K:Int),.int .u64 0,.string ⟨#[]⟩,.slice none 0 0],.int .u8 (c:Int),.slice A n m] w (zbt ((zbH (zaI F) c (l.drop (sw c))).map fun vs=>.mk K 0 ⟨#[]⟩ vs) w):=by
 have Jz:K < 256:=by omega
 have h0:MI w ((w.alloc (.cells #[.int .u8 (K:Int),.int .u64 0,.string ⟨#[]⟩,.slice none 0 0] 43)).alloc (.cells #[.int .u8 0,.int .u64 0,.string ⟨#[]⟩,.slice none 0 0] 43)) K none 0 0 [] []:=
  ⟨(Box.new w _ _ _ _).call ((za _ _)),Box.new2 w _ _ _ _ _,CS.nil _ _,zaw w _ _⟩
 have H0:=zaa h0;have jA:=zaa hr;have Hw:=zaa hB;obtain⟨d0,d1,d2,d3,df⟩:=h0.bx.all;obtain⟨z0,z1,z2,z3,zf⟩:=h0.rs.all;clear h0;by_cases qe:c=69
 ·have hl:=Je qe;have jV:Hid (zbH (zaI F) c (l.drop (sw c))=some []):=zaa (by rw[hl,qe];rfl);have hd:((c:Int)==69)=true:=by rw[qe];rfl
  clear hr hB hl Je qe hk hF Hu d0 d1 d2 d3 df z0 z1 z2 z3 zf;go_enter func117,ntmps117;go_wp2;refine bodyPost_ret (v:=.tuple #[.agg #[.int .u8 (K:Int),.int .u64 0,.string ⟨#[]⟩,.slice none 0 0],.bool true]) (by simp[results,results117,go_sem]) rfl ?_;refine⟨K,0,⟨#[]⟩,[],none,0,0,true,rfl,Jz,by omega,Val.Kids.none_ _ _ _ _ _,zaw w _ _,?_⟩;rw[jV.out];exact⟨rfl,rfl⟩
 ·have jX:=zmf c hc (by omega) qe;have hd:((c:Int)==69)=false:=by rw[zac];omega
  have jy:=hr.len;have QT:=zaa (fun w' (hb:Below w.heap.size w w')=>zh c hc (by omega) B A n m l w' (hr.below (hb.mono hB)) hm hn Hu);obtain⟨dd,gI⟩:∃ dd,l.drop (sw c)=dd:=⟨_,rfl⟩;rw[gI] at QT ⊢;have vI:dd.length≤l.length:=by rw[←gI];simp only[ydc];omega
  by_cases GN:dd.length < sw c∨1024 < tn (dd.take (sw c))
  ·have jV:=zaa (zhc (tl:=zaI F) GN);have QS:=zaa (fun w' (hb:Below w.heap.size w w')=>show Calls prog 142 #[.int .u8 (c:Int),.slice A n m] w' (fun e w''=>e=.returned (.tuple #[.int .i64 0,.slice none 0 0,.bool false])∧Below w'.heap.size w' w'') by
    refine(QT.out w' hb).mono fun e w'' hh=>?_;unfold zbw at hh;rw[if_pos GN] at hh;exact⟨hh.2,hh.1⟩)
   clear hr hB Je qe hk hF Hu GN QT gI vI jy jX;go_enter func117,ntmps117;go_wp2_with fail
   (with_reducible refine(QS.out _ H0.out.low).mono ?_)
   rintro e w1 ⟨rfl,Ha⟩;have H1:=zaa (H0.out.call Ha);clear Ha d0 d1 d2 d3 df z0 z1 z2 z3 zf;obtain⟨d0,d1,d2,d3,df⟩:=H1.out.bx.all;obtain⟨z0,z1,z2,z3,zf⟩:=H1.out.rs.all;go_wp2;refine bodyPost_ret (v:=.tuple #[.agg #[.int .u8 (K:Int),.int .u64 0,.string ⟨#[]⟩,.slice none 0 0],.bool false]) (by simp[results,results117,go_sem,z0,z1,z2,z3]) rfl ?_;refine⟨K,0,⟨#[]⟩,[],none,0,0,false,rfl,Jz,by omega,Val.Kids.none_ _ _ _ _ _,zae H1.out.low (by omega) _ _ _ _,?_⟩;rw[jV.out];rfl
  ·have jU:=zmg (tl:=zaI F) (c:=c) (d:=dd) (by omega) GN;obtain⟨cnt,G4⟩:∃ cnt,tn (dd.take (sw c))=cnt:=⟨_,rfl⟩;have UJ:cnt≤1024:=by omega
   obtain⟨l0,jH⟩:∃ l0,dd.drop (sw c)=l0:=⟨_,rfl⟩;have Un:l0.length≤F:=by rw[←jH];simp only[ydc];omega
   have CZ:l0.length≤n:=by rw[←jH];simp only[ydc];omega
   rw[G4,jH] at jU;have QS:=zaa (fun w' (hb:Below w.heap.size w w')=>show Calls prog 142 #[.int .u8 (c:Int),.slice A n m] w' (fun e w''=>∃ A1 n1 m1,e=.returned (.tuple #[.int .i64 (cnt:Int),.slice A1 n1 m1,.bool true])∧Rd .u8 256 w' B A1 n1 l0∧n1≤m1∧Below w'.heap.size w' w'') by
    refine(QT.out w' hb).mono fun e w'' hh=>?_;unfold zbw at hh;rw[if_neg GN,G4,jH] at hh;obtain⟨h1,A1,n1,m1,h2,h3,h4⟩:=hh;exact⟨A1,n1,m1,h2,h3,h4,h1⟩)
   obtain⟨R,kF⟩:∃ R,zbF (zeT (zaI F)) cnt l0=R:=⟨_,rfl⟩;rw[kF] at jU;have jV:=zaa jU;have v9:R=preX [] (zbF (zeT (zaI F)) cnt l0):=by rw[zlp,kF]
   have JH:=zaa v9;clear hr hB Je qe hk hF Hu GN QT gI vI jy jX jU v9 kF G4 jH;go_enter func117,ntmps117;go_wp2_with fail
   (with_reducible refine(QS.out _ H0.out.low).mono ?_)
   rintro e w1 ⟨A1,n1,m1,rfl,Gc,Gp,Ha⟩;have H1:=zaa (H0.out.call Ha);have C0:=Gc.len;have xm:=zaa (show Rd .u8 256 w B A1 n1 l0 from Gc.keep fun _ hp=>((H0.out.low.mono Hw.out).cell hp).symm);clear Ha d0 d1 d2 d3 df z0 z1 z2 z3 zf Gc;go_wp2_with fail;go_loopw [9,11] (fun s9 s11 wr=>∃ i Ar nr cr l' An nn cn done xs,i≤cnt∧s11=.int .i64 ((i:Nat):Int)∧s9=.slice Ar nr cr∧Rd .u8 256 w B Ar nr l'∧nr≤cr∧nr≤n∧l'.length≤F∧MI w wr K An nn cn done xs∧nn=i∧R=preX done (zbF (zeT (zaI F)) (cnt - i) l')) (fun _ s _=>cnt - (intOf s).toNat)
   case atStart=>exact⟨0,A1,n1,m1,l0,none,0,0,[],[],Nat.zero_le _,rfl,rfl,xm.out,Gp,by omega,Un,H1.out,rfl,JH.out⟩
   case round=>
    obtain⟨i,Ar,nr,cr,l',An,nn,cn,done,xs,hi,rfl,rfl,kG,Yy,GA,Uo,hM,JY,gJ⟩:=hrel;subst JY;obtain⟨d0,d1,d2,d3,df⟩:=hM.bx.all;obtain⟨z0,z1,z2,z3,zf⟩:=hM.rs.all;have HM:=zaa hM;have hlen:=kG.len;have KP:=hM.bx.lt;have JI:=hM.rs.lt;have Qs:=hM.low.size;clear hM JH xm H1;by_cases Hi:nn < cnt
    ·obtain⟨p,hp⟩:∃ p,cnt - nn=p+1:=⟨cnt - nn - 1,by omega⟩;rw[hp] at gJ;have hW:=zjC hR B Ar nr cr l' wr (kG.below (HM.out.low.mono Hw.out)) (ydd Hw.out HM.out.low.size) Yy (by omega) Uo;have Jc:decide ((nn:Int) < (cnt:Int))=true:=decide_eq_true (by omega);cases hv:valX (zaI F) l' with
     | error s=>
      have uE:R=none:=by rw[gJ,zgx _ (by rw[zjD,hv])]
      subst uE;rw[hv] at hW;have HW:=zaa hW;clear gJ hW hv hp kG;go_wp2_with fail
      (with_reducible refine HW.out.mono ?_)
      rintro e w2 ⟨k,n0,t,ks,A2,l2,c2,q,b,rfl,kB,bq,k9,He,YT⟩;obtain rfl:b=false:=YT;have ji:=HM.out.call He;clear d0 d1 d2 d3 df z0 z1 z2 z3 zf;obtain⟨d0,d1,d2,d3,df⟩:=ji.bx.all;obtain⟨z0,z1,z2,z3,zf⟩:=ji.rs.all;have C3:=ji.bx.lt;have C4:=ji.rs.lt;have yh:¬ w.heap.size=w2.heap.size:=by omega
      have uS:¬ w.heap.size+1=w2.heap.size:=by omega
      have HM2:=zaa ji;clear ji He k9;go_wp2;refine bodyPost_ret (v:=.tuple #[.agg #[.int .u8 (K:Int),.int .u64 0,.string ⟨#[]⟩,.slice An nn cn],.bool false]) (by simp[results,results117,go_sem,z0,z1,z2,z3,C4]) rfl ?_;refine⟨K,0,⟨#[]⟩,done,An,nn,cn,false,rfl,Jz,by omega,((HM2.out.row.nw.far4 (g:=w.heap.size+1) (by omega) _ _ _ _).call ((za _ _))).less (by omega),(zae HM2.out.low (by omega) _ _ _ _).alloc (by simp;omega) _,?_⟩;rw[jV.out];rfl
     | ok p2=>
      obtain⟨v,r⟩:=p2;have uF:R=preX (done++[v]) (zbF (zeT (zaI F)) p r):=by rw[gJ,zjE _ (by rw[zjD,hv])]
      obtain⟨js,C5⟩:=zoW hv;obtain⟨q',Vg⟩:∃ q',l'.length - r.length=q':=⟨_,rfl⟩;rw[Vg] at js;have hqn:q'≤nr:=by omega
      obtain⟨A5,c5,GD,k7,gZ,Gk,gh⟩:=zb Ar nr cr q' hqn Yy;have V1:=fun W=>gZ W (q':Int) rfl;have V3:=fun W=>Gk W (q':Int) rfl;have qZ:Rd .u8 256 w B A5 (nr - q') r:=js▸gh w B l' kG;have VC:=zaa qZ;have QU:=zaa uF;have Jn:cnt - (nn+1)=p:=by omega
      have hrF:r.length≤F:=by omega
      rw[hv] at hW;have HW:=zaa hW;obtain⟨i0,Qm,gE,Hn,gb⟩:=info_parts zdb;have JA:=HM.out.row.own.lt;have qy:=zaa JA;clear gJ hW hv kG uF js C5 k7 gZ Gk gh qZ JA;go_wp2_with fail
      (with_reducible refine HW.out.mono ?_)
      rintro e w2 ⟨k,n0,t,ks,A2,l2,c2,q,b,rfl,kB,bq,k9,He,Ku,Qv,Yw⟩;subst Ku Yw Qv;rw[Vg];have ji:=HM.out.call He;have hz2s:=He.size;have jr:=zaa (show Val.Kids true (w2.alloc (.cells #[.int .u8 (k:Int),.int .u64 (n0:Int),.string t,.slice A2 l2 c2] 43)) (fun i=>w.heap.size+2≤i∧i < (w2.alloc (.cells #[.int .u8 (k:Int),.int .u64 (n0:Int),.string t,.slice A2 l2 c2] 43)).heap.size∧(Value.slice An nn cn).ownBlock≠some i) ks A2 l2 c2 from
       (k9.call ((za _ _))).mono fun i hi=>⟨by have:=hi.1;omega,hi.2,fun e=>by have:=(qy.out i e).2;have:=hi.1;omega⟩)
      clear d0 d1 d2 d3 df z0 z1 z2 z3 zf;have Vo:=ji.call ((Below.refl _ _).alloc zab (.cells #[.int .u8 (k:Int),.int .u64 (n0:Int),.string t,.slice A2 l2 c2] 43));have kD:=Vo.call ((Below.refl _ _).alloc zab (.cells #[.int .u8 (k:Int),.int .u64 (n0:Int),.string t,.slice A2 l2 c2] 43));obtain⟨d0,d1,d2,d3,df⟩:=ji.bx.all;obtain⟨y0,y1,y2,y3,yf⟩:=kD.bx.all;have C3:=ji.bx.lt;have yh:¬ w.heap.size=w2.heap.size:=by omega
      have Gi:=Vo.row.own;have hcap3:=zbi Gi;have qT:=zaa Vo;clear ji Vo kD He k9;go_wp2_with (at_builtin;refine wpList_append_lies _ rfl _ _ 41 rfl (w.heap.size+2) 43 i0 _ 4 56 underlying41 Qm gE Hn gb rfl (by omega) _ _ _ rfl (Gi.alloc _) ⟨w2.heap.size+1,0,none⟩ 1 1 [.int .u8 (k:Int),.int .u64 (n0:Int),.string t,.slice A2 l2 c2] rfl rfl (news4 _ _ _ _ _ _ _ (by simp)) (fun u hu=>(by simp at hu;rcases hu with rfl | rfl | rfl | rfl<;>rfl)) (by omega) (by unfold maxLen;omega) (by omega) (by simp;omega) _ rfl ?_;intro g9 cap9 w9 Hb Hd Hv Gl;have x3:=(Hd.cell_far ⟨w.heap.size,3,none⟩ (by simp;omega) (fun e=>by have:=(qy.out w.heap.size e.symm).1;omega)).trans y3;have xf:=fun j=>(Hd.frozen_far ⟨w.heap.size,j,none⟩ (by simp;omega) (fun e=>by have:=(qy.out w.heap.size e.symm).1;omega)).trans (yf j));go_roundw
      case measure=>simp[intOf];omega
      case rel=>exact⟨nn+1,A5,nr - q',c5,r,_,_,_,done++[.mk k n0 t ks],_,by omega,by go_num,rfl,VC.out,GD,by omega,hrF,qT.out.more kB bq jr.out _ Hb Hd (Hv.imp id fun h=>by simp at h ⊢;omega),rfl,by rw[Jn];exact QU.out⟩
    ·have JS:cnt - nn=0:=by omega
     have cR:R=some (done,l'):=by rw[gJ,JS];simp[zbF,preX]
     subst cR;have Jc:decide ((nn:Int) < (cnt:Int))=false:=decide_eq_false (by omega);clear gJ kG;by_cases hz:nr=0
     ·have qp:l'=[]:=yde (by omega);subst hz qp;go_wp2;refine bodyPost_ret (v:=.tuple #[.agg #[.int .u8 (K:Int),.int .u64 0,.string ⟨#[]⟩,.slice An nn cn],.bool true]) (by simp[results,results117,go_sem,z0,z1,z2,z3]) rfl ?_;refine⟨K,0,⟨#[]⟩,done,An,nn,cn,true,rfl,Jz,by omega,(HM.out.row.nw.far4 (g:=w.heap.size+1) (by omega) _ _ _ _).less (by omega),zae HM.out.low (by omega) _ _ _ _,?_⟩;rw[jV.out];exact⟨rfl,rfl⟩
     ·have hdz:((nr:Int)==0)=false:=by rw[zac];omega
      obtain⟨x,xs',qp⟩:∃ x xs',l'=x::xs':=by
       cases l' with
       | nil=>simp at hlen;omega
       | cons x xs'=>exact⟨x,xs',rfl⟩
      go_wp2;refine bodyPost_ret (v:=.tuple #[.agg #[.int .u8 (K:Int),.int .u64 0,.string ⟨#[]⟩,.slice An nn cn],.bool false]) (by simp[results,results117,go_sem,z0,z1,z2,z3]) rfl ?_;refine⟨K,0,⟨#[]⟩,done,An,nn,cn,false,rfl,Jz,by omega,(HM.out.row.nw.far4 (g:=w.heap.size+1) (by omega) _ _ _ _).less (by omega),zae HM.out.low (by omega) _ _ _ _,?_⟩;rw[jV.out,qp];rfl
theorem zvE {F:Nat}(hR:zkf F)(c:Nat)(hc:c < 256)(hk:kof c=22)(B:Nat)(A:Oz)(n m:Nat)(l:Lz)(w:World)(hr:Rd .u8 256 w B A n l)(hB:B≤w.heap.size)(hm:n≤m)(hn:n≤1099511627776)(Hu:sw c≤n)(hF:l.length≤F)(Je:c=69→l=[]) :
  Calls prog 69 #[.int .u8 (c:Int),.slice A n m] w (zbt ((zbH (zaI F) c (l.drop (sw c))).map fun vs=>.mk 22 0 ⟨#[]⟩ vs) w):=by
 have HK:=zaa (fun w=>zat c hc w);rw[hk] at HK;have gD:=zaa (show Below w.heap.size w (w.alloc (.cells #[.int .u8 0,.int .u64 0,.string ⟨#[]⟩,.slice none 0 0] 43)) from (za _ _));have gG:=zaa (Box.new w (.int .u8 0) (.int .u64 0) (.string ⟨#[]⟩) (.slice none 0 0));have HR:=zaa hr;have Hw:=zaa hB;have xI:=zaa (fun w' (hb:Below w.heap.size w w')=>show Calls prog 117 #[.agg #[.int .u8 22,.int .u64 0,.string ⟨#[]⟩,.slice none 0 0],.int .u8 (c:Int),.slice A n m] w' (zbt ((zbH (zaI F) c (l.drop (sw c))).map fun vs=>.mk 22 0 ⟨#[]⟩ vs) w') from
  zlr hR 22 (by omega) c hc hk B A n m l w' (hr.below (hb.mono hB)) (ydd hB hb.size) hm hn Hu hF Je)
 obtain⟨o,ho⟩:∃ o,((zbH (zaI F) c (l.drop (sw c))).map fun vs=>V.mk 22 0 ⟨#[]⟩ vs)=o:=⟨_,rfl⟩;rw[ho] at xI ⊢;clear hr hB hk Je hF ho;go_enter func69,ntmps69;go_wp2_with fail
 (with_reducible refine(HK.out _).mono ?_)
 rintro e w1 ⟨rfl,Ha⟩;have Hn:=Ha.size;simp only[World.size_alloc] at Hn;have gq:=zaa (zad gD.out Ha);have Hl:=zaa (gq.out.alloc (by omega) (.cells #[.int .u8 22,.int .u64 0,.string ⟨#[]⟩,.slice none 0 0] 43));have kR:=zaa ((gG.out.call Ha).call ((Below.refl _ _).alloc zab (.cells #[.int .u8 22,.int .u64 0,.string ⟨#[]⟩,.slice none 0 0] 43)));obtain⟨d0,d1,d2,d3,df⟩:=(gG.out.call Ha).all;have Hi:w.heap.size < w1.heap.size:=by omega
 have Hp:¬ w.heap.size=w1.heap.size:=by omega
 clear Ha;go_wp2_with fail
 (with_reducible refine(zax B A n m l _ (HR.out.below (Hl.out.mono Hw.out))).mono ?_)
 rintro e w2 ⟨⟨pp,rfl⟩,rfl⟩;obtain⟨N,hN⟩:∃ N,tn l=N:=⟨_,rfl⟩;rw[hN];clear hN;go_wp2_with fail
 (with_reducible refine(xI.out _ Hl.out).mono ?_)
 rintro e w3 ⟨rk,rn,rt,rks,rA,rl,rc,rb,rfl,jN,J3,jW,Hj,qx⟩;clear d0 d1 d2 d3 df;obtain⟨d0,d1,d2,d3,df⟩:=(kR.out.call Hj).all;have Gv:=zaa (zad Hl.out Hj);have jn:=Hj.size;simp only[World.size_alloc] at jn jW;have ku:=zaa jW;have QU:=zaa qx;clear Hj jW qx;go_wp2;refine bodyPost_ret (v:=.tuple #[.agg #[.int .u8 (rk:Int),.int .u64 (rn:Int),.string rt,.slice rA rl rc],.bool rb]) (by simp[results,results69,go_sem,d0,d1,d2,d3]) rfl ?_;exact⟨rk,rn,rt,rks,rA,rl,rc,rb,rfl,jN,J3,(ku.out.far4 (g:=w.heap.size) (by omega) _ _ _ _).less (by omega),zae Gv.out zab _ _ _ _,QU.out⟩
theorem zvF {F:Nat}(hR:zkf F)(c:Nat)(hc:c < 256)(hk:kof c=23)(B:Nat)(A:Oz)(n m:Nat)(l:Lz)(w:World)(hr:Rd .u8 256 w B A n l)(hB:B≤w.heap.size)(hm:n≤m)(hn:n≤1099511627776)(Hu:sw c≤n)(hF:l.length≤F)(Je:c=69→l=[]) :
  Calls prog 69 #[.int .u8 (c:Int),.slice A n m] w (zbt ((zbH (zaI F) c (l.drop (sw c))).map fun vs=>.mk 23 0 ⟨#[]⟩ vs) w):=by
 have HK:=zaa (fun w=>zat c hc w);rw[hk] at HK;have gD:=zaa (show Below w.heap.size w (w.alloc (.cells #[.int .u8 0,.int .u64 0,.string ⟨#[]⟩,.slice none 0 0] 43)) from (za _ _));have gG:=zaa (Box.new w (.int .u8 0) (.int .u64 0) (.string ⟨#[]⟩) (.slice none 0 0));have HR:=zaa hr;have Hw:=zaa hB;have xI:=zaa (fun w' (hb:Below w.heap.size w w')=>show Calls prog 117 #[.agg #[.int .u8 23,.int .u64 0,.string ⟨#[]⟩,.slice none 0 0],.int .u8 (c:Int),.slice A n m] w' (zbt ((zbH (zaI F) c (l.drop (sw c))).map fun vs=>.mk 23 0 ⟨#[]⟩ vs) w') from
  zlr hR 23 (by omega) c hc hk B A n m l w' (hr.below (hb.mono hB)) (ydd hB hb.size) hm hn Hu hF Je)
 obtain⟨o,ho⟩:∃ o,((zbH (zaI F) c (l.drop (sw c))).map fun vs=>V.mk 23 0 ⟨#[]⟩ vs)=o:=⟨_,rfl⟩;rw[ho] at xI ⊢;clear hr hB hk Je hF ho;go_enter func69,ntmps69;go_wp2_with fail
 (with_reducible refine(HK.out _).mono ?_)
 rintro e w1 ⟨rfl,Ha⟩;have Hn:=Ha.size;simp only[World.size_alloc] at Hn;have gq:=zaa (zad gD.out Ha);have Hl:=zaa (gq.out.alloc (by omega) (.cells #[.int .u8 23,.int .u64 0,.string ⟨#[]⟩,.slice none 0 0] 43));have kR:=zaa ((gG.out.call Ha).call ((Below.refl _ _).alloc zab (.cells #[.int .u8 23,.int .u64 0,.string ⟨#[]⟩,.slice none 0 0] 43)));obtain⟨d0,d1,d2,d3,df⟩:=(gG.out.call Ha).all;have Hi:w.heap.size < w1.heap.size:=by omega
 have Hp:¬ w.heap.size=w1.heap.size:=by omega
 clear Ha;go_wp2_with fail
 (with_reducible refine(zax B A n m l _ (HR.out.below (Hl.out.mono Hw.out))).mono ?_)
 rintro e w2 ⟨⟨pp,rfl⟩,rfl⟩;obtain⟨N,hN⟩:∃ N,tn l=N:=⟨_,rfl⟩;rw[hN];clear hN;go_wp2_with fail
 (with_reducible refine(xI.out _ Hl.out).mono ?_)
 rintro e w3 ⟨rk,rn,rt,rks,rA,rl,rc,rb,rfl,jN,J3,jW,Hj,qx⟩;clear d0 d1 d2 d3 df;obtain⟨d0,d1,d2,d3,df⟩:=(kR.out.call Hj).all;have Gv:=zaa (zad Hl.out Hj);have jn:=Hj.size;simp only[World.size_alloc] at jn jW;have ku:=zaa jW;have QU:=zaa qx;clear Hj jW qx;go_wp2;refine bodyPost_ret (v:=.tuple #[.agg #[.int .u8 (rk:Int),.int .u64 (rn:Int),.string rt,.slice rA rl rc],.bool rb]) (by simp[results,results69,go_sem,d0,d1,d2,d3]) rfl ?_;exact⟨rk,rn,rt,rks,rA,rl,rc,rb,rfl,jN,J3,(ku.out.far4 (g:=w.heap.size) (by omega) _ _ _ _).less (by omega),zae Gv.out zab _ _ _ _,QU.out⟩
theorem zmh {tl:List V→Nat→Lz→Option V}{ns:List V}{c:Nat}{l:Lz}(h:zaC c l=none):zc9 tl ns c l=none:=by unfold zc9;rw[h]
theorem zq8 {F:Nat}{ns:List V}{c:Nat}{l d r:Lz}(h:zaC c l=some (d,r))(ht:zaI F [] c d=none):zc9 (zaI F) ns c l=none:=by unfold zc9;rw[h];simp only;rw[zcw,ht];rfl
theorem zoX {F:Nat}{ns:List V}{c:Nat}{l d r:Lz}{u:V}(h:zaC c l=some (d,r))(ht:zaI F [] c d=some u):zc9 (zaI F) ns c l=some (zap ns u,r):=by unfold zc9;rw[h];simp only;rw[zcw,ht];rfl
structure MJ (w wr:World) (S K:Nat) (An:Oz) (nn cn:Nat) (done:List V) (xs:List Value):Prop where
 bx:Box wr w.heap.size (.int .u8 (K:Int)) (.int .u64 0) (.string ⟨#[]⟩) (.slice An nn cn)
 rs:Box wr (w.heap.size+1) (.int .u8 0) (.int .u64 0) (.string ⟨#[]⟩) (.slice none 0 0)
 row:CS S wr An nn cn done xs
 low:Below w.heap.size w wr
 ge:w.heap.size+2≤S∧S≤wr.heap.size
section
variable {w wr w':World} {S K:Nat} {An:Oz} {nn cn:Nat} {done:List V} {xs:List Value}
theorem MJ.call (h:MJ w wr S K An nn cn done xs)(hb:Below wr.heap.size wr w'):MJ w w' S K An nn cn done xs:=⟨h.bx.call hb,h.rs.call hb,h.row.call hb,zad h.low hb,h.ge.1,ydd h.ge.2 hb.size⟩
theorem MJ.more (h:MJ w wr S K An nn cn done xs){k n:Nat}{t:ByteArray}{ks:List V}{A:Oz}{l c:Nat}(hk:k < 256)(hn:n < 18446744073709551616)(hK:Val.Kids true wr (fun i=>S≤i∧i < wr.heap.size∧(Value.slice An nn cn).ownBlock≠some i) ks A l c){g cap:Nat}{w9:World}(o:Obj)
  (Hf:w9.ownsRow S 43 4 (.slice (some ⟨g,0,none⟩) (nn+1) cap) (nn+1) (xs++[.int .u8 (k:Int),.int .u64 (n:Int),.string t,.slice A l c])) (hg:(wr.alloc o).grownBy w9 (Value.slice An nn cn).ownBlock) (gT:(Value.slice An nn cn).ownBlock=some g∨wr.heap.size≤g) :
  MJ w (w9.setCell ⟨w.heap.size,3,none⟩ (.slice (some ⟨g,0,none⟩) (nn+1) cap)) S K (some ⟨g,0,none⟩) (nn+1) cap (done++[.mk k n t ks]) (xs++[.int .u8 (k:Int),.int .u64 (n:Int),.string t,.slice A l c]) ∧
  ∀ i,i < S→i≠w.heap.size→(w9.setCell ⟨w.heap.size,3,none⟩ (.slice (some ⟨g,0,none⟩) (nn+1) cap)).heap[i]? = wr.heap[i]?:=by
 have h1:=h.bx.lt;have h2:=h.rs.lt;have Hr:=h.row.own.lt;have Qs:=h.low.size;have xH:=h.ge;have qM:=hg.size;simp only[World.size_alloc] at qM;have hold:∀ i,i < S→w9.heap[i]? = wr.heap[i]?:=fun i hi=>
  (hg.block i (by simp;omega) (fun e=>by have:=(Hr i e.symm).1;omega)).trans (ydf _ _ _ (by omega))
 have Ki:=h.row.push hk hn hK o rfl Hf hg gT;refine⟨⟨?_,?_,zrz Ki (fun i hi=>yda _ _ _ _ (by simp only;omega)) (by simp),(zau h.low o hg (fun i e=>by have:=(Hr i e).1;omega) (by omega)).setCell (p:=⟨w.heap.size,3,none⟩) zab _,xH.1,by simp;omega⟩,fun i hi Hp=>(yda _ _ _ _ Hp).trans (hold i hi)⟩
 ·have kr:Box w9 w.heap.size (.int .u8 (K:Int)) (.int .u64 0) (.string ⟨#[]⟩) (.slice An nn cn):=(hold _ (by omega)).trans h.bx;exact zlq kr _
 ·exact(yda _ _ _ _ (by simp)).trans ((hold _ (by omega)).trans h.rs)
end
theorem zoY:∀ c < 256,kof c=24→192≤c:=by decide
theorem zoZ {tl:List V→Nat→Lz→Option V}{c:Nat}{d:Lz}(jJ:kof c=24)(h:¬ (d.length < sw c∨1024 < tn (d.take (sw c)))):zbH tl c d=(match headD (d.drop (sw c)) with
  | .error _=>none
  | .ok (ns,c',r)=>endX (zbF (zc9 tl ns c') (tn (d.take (sw c))) r)):=by
 unfold zbH;rw[if_neg (fun e=>h (.inl e)),if_neg (fun e=>h (.inr e)),if_pos jJ];cases headD (d.drop (sw c))<;>rfl
theorem zo0 {F:Nat}(hR:zkf F)(c:Nat)(hc:c < 256)(hk:kof c=24)(B:Nat)(A:Oz)(n m:Nat)(l:Lz)(w:World)(hr:Rd .u8 256 w B A n l)(hB:B≤w.heap.size)(hm:n≤m)(hn:n≤1099511627776)(Hu:sw c≤n)(hF:l.length≤F) :
  Calls prog 118 #[.agg #[.int .u8 24,.int .u64 0,.string ⟨#[]⟩,.slice none 0 0],.int .u8 (c:Int),.slice A n m] w (zbt ((zbH (zaI F) c (l.drop (sw c))).map fun vs=>.mk 24 0 ⟨#[]⟩ vs) w):=by
 have h0:MJ w ((w.alloc (.cells #[.int .u8 24,.int .u64 0,.string ⟨#[]⟩,.slice none 0 0] 43)).alloc (.cells #[.int .u8 0,.int .u64 0,.string ⟨#[]⟩,.slice none 0 0] 43)) (w.heap.size+2) 24 none 0 0 [] []:=
  ⟨(Box.new w _ _ _ _).call ((za _ _)),Box.new2 w _ _ _ _ _,CS.nil _ _,zaw w _ _,zab,by simp⟩
 have H0:=zaa h0;have Hw:=zaa hB;obtain⟨d0,d1,d2,d3,df⟩:=h0.bx.all;obtain⟨z0,z1,z2,z3,zf⟩:=h0.rs.all;clear h0;have jX:=zoY c hc hk;have jy:=hr.len;have QT:=zaa (fun w' (hb:Below w.heap.size w w')=>zh c hc (by omega) B A n m l w' (hr.below (hb.mono hB)) hm hn Hu);obtain⟨dd,gI⟩:∃ dd,l.drop (sw c)=dd:=⟨_,rfl⟩;rw[gI] at QT ⊢;have vI:dd.length≤l.length:=by rw[←gI];simp only[ydc];omega
 by_cases GN:dd.length < sw c∨1024 < tn (dd.take (sw c))
 ·have jV:=zaa (zhc (tl:=zaI F) GN);have QS:=zaa (fun w' (hb:Below w.heap.size w w')=>show Calls prog 142 #[.int .u8 (c:Int),.slice A n m] w' (fun e w''=>e=.returned (.tuple #[.int .i64 0,.slice none 0 0,.bool false])∧Below w'.heap.size w' w'') by
   refine(QT.out w' hb).mono fun e w'' hh=>?_;unfold zbw at hh;rw[if_pos GN] at hh;exact⟨hh.2,hh.1⟩)
  clear hr hB hk hF Hu GN QT gI vI jy jX;go_enter func118,ntmps118;go_wp2_with fail
  (with_reducible refine(QS.out _ H0.out.low).mono ?_)
  rintro e w1 ⟨rfl,Ha⟩;have H1:=zaa (H0.out.call Ha);clear Ha d0 d1 d2 d3 df z0 z1 z2 z3 zf;obtain⟨d0,d1,d2,d3,df⟩:=H1.out.bx.all;obtain⟨z0,z1,z2,z3,zf⟩:=H1.out.rs.all;go_wp2;refine bodyPost_ret (v:=.tuple #[.agg #[.int .u8 24,.int .u64 0,.string ⟨#[]⟩,.slice none 0 0],.bool false]) (by simp[results,results118,go_sem,z0,z1,z2,z3]) rfl ?_;refine⟨24,0,⟨#[]⟩,[],none,0,0,false,rfl,by omega,by omega,Val.Kids.none_ _ _ _ _ _,zae H1.out.low (by omega) _ _ _ _,?_⟩;rw[jV.out];rfl
 ·have jU:=zoZ (tl:=zaI F) (c:=c) (d:=dd) hk GN;obtain⟨cnt,G4⟩:∃ cnt,tn (dd.take (sw c))=cnt:=⟨_,rfl⟩;have UJ:cnt≤1024:=by omega
  obtain⟨l0,jH⟩:∃ l0,dd.drop (sw c)=l0:=⟨_,rfl⟩;have Un:l0.length≤F:=by rw[←jH];simp only[ydc];omega
  have CZ:l0.length≤n:=by rw[←jH];simp only[ydc];omega
  rw[G4,jH] at jU;have QS:=zaa (fun w' (hb:Below w.heap.size w w')=>show Calls prog 142 #[.int .u8 (c:Int),.slice A n m] w' (fun e w''=>∃ A1 n1 m1,e=.returned (.tuple #[.int .i64 (cnt:Int),.slice A1 n1 m1,.bool true])∧Rd .u8 256 w' B A1 n1 l0∧n1≤m1∧Below w'.heap.size w' w'') by
   refine(QT.out w' hb).mono fun e w'' hh=>?_;unfold zbw at hh;rw[if_neg GN,G4,jH] at hh;obtain⟨h1,A1,n1,m1,h2,h3,h4⟩:=hh;exact⟨A1,n1,m1,h2,h3,h4,h1⟩)
  clear hr hB hk hF Hu GN QT gI vI jy jX G4 jH;go_enter func118,ntmps118;go_wp2_with fail
  (with_reducible refine(QS.out _ H0.out.low).mono ?_)
  rintro e w1 ⟨A1,n1,m1,rfl,Gc,Gp,Ha⟩;have H1:=zaa (H0.out.call Ha);have C0:=Gc.len;have cS:Rd .u8 256 w B A1 n1 l0:=Gc.keep fun _ hp=>((H0.out.low.mono Hw.out).cell hp).symm;have Vp:=zaa (zgw l0 B A1 n1 m1 w1 (cS.below (H1.out.low.mono Hw.out)) (ydd Hw.out H1.out.low.size) Gp (by omega));have HRW:=zaa cS;clear Ha d0 d1 d2 d3 df z0 z1 z2 z3 zf Gc cS;obtain⟨d0,d1,d2,d3,df⟩:=H1.out.bx.all;obtain⟨z0,z1,z2,z3,zf⟩:=H1.out.rs.all;have hb1l:=H1.out.bx.lt;have hr1ll:=H1.out.rs.lt;cases hh:headD l0 with
  | error s=>
   rw[hh] at jU Vp;have jV:=zaa jU;have hs:((((sel s 7:Nat):Int)) != 0)=true:=by cases s<;>rfl
   obtain⟨S,hS⟩:∃ S:Int,((sel s 7:Nat):Int)=S:=⟨_,rfl⟩;rw[hS] at hs;clear jU hh;go_wp2_with fail
   (with_reducible refine Vp.out.mono ?_)
   rintro e w2 ⟨rfl,He⟩;have H2:=zaa (H1.out.call He);clear He d0 d1 d2 d3 df z0 z1 z2 z3 zf;obtain⟨d0,d1,d2,d3,df⟩:=H2.out.bx.all;obtain⟨z0,z1,z2,z3,zf⟩:=H2.out.rs.all;rw[hS];go_wp2;refine bodyPost_ret (v:=.tuple #[.agg #[.int .u8 24,.int .u64 0,.string ⟨#[]⟩,.slice none 0 0],.bool false]) (by simp[results,results118,go_sem,z0,z1,z2,z3]) rfl ?_;refine⟨24,0,⟨#[]⟩,[],none,0,0,false,rfl,by omega,by omega,Val.Kids.none_ _ _ _ _ _,zae H2.out.low (by omega) _ _ _ _,?_⟩;rw[jV.out];rfl
  | ok p=>
   obtain⟨ns,c',r⟩:=p;rw[hh] at jU;obtain⟨hlen,js,Kc,GU⟩:=zdN hh;have jD:=zdx hh;obtain⟨at_,gT⟩:∃ a,l0.length - r.length=a:=⟨_,rfl⟩;rw[gT] at js;have Ja:=Vp.out;rw[hh] at Ja;unfold zeV at Ja;simp only at Ja;rw[gT] at Ja;have HC3:=zaa Ja;have hle:at_≤n1:=by omega
   obtain⟨A2,c2,GD,k7,gZ,Gk,gh⟩:=zb A1 n1 m1 at_ hle Gp;have kG:Rd .u8 256 w B A2 (n1 - at_) r:=js▸gh w B l0 HRW.out;have V1:=fun W=>gZ W (at_:Int) rfl;have V3:=fun W=>Gk W (at_:Int) rfl;have C6:r.length < F:=by omega
   obtain⟨R,kF⟩:∃ R,zbF (zc9 (zaI F) ns c') cnt r=R:=⟨_,rfl⟩;simp only at jU;rw[kF] at jU;have jV:=zaa jU;have JH:Hid (R=preX [] (zbF (zc9 (zaI F) ns c') cnt r)):=zaa (by rw[zlp,kF]);have yD:ns.length≤1099511627776:=by omega
   clear jU hh Ja Vp js k7 gZ Gk gh kF gT;go_wp2_with fail
   (with_reducible refine HC3.out.mono ?_)
   rintro e w2 ⟨Ans,nns,cns,rfl,VN,He⟩;obtain rfl:=VN.len;have CY:=He.size;have hlow1:=H1.out.low.size;have h2:=H1.out.call He;have H2:Hid (MJ w w2 w2.heap.size 24 none 0 0 [] []):=zaa ⟨h2.bx,h2.rs,CS.nil _ _,h2.low,by have:=h2.rs.lt;omega,zab⟩;have HNS:=zaa VN;have VC:=zaa kG;have vS:=zaa jD;clear h2 He VN kG jD d0 d1 d2 d3 df z0 z1 z2 z3 zf;obtain⟨S,hS⟩:∃ S,w2.heap.size=S:=⟨_,rfl⟩;rw[hS] at H2;go_wp2_with fail;go_loopw [9,15] (fun s9 s15 wr=>∃ i Ar nr cr l' An nn cn done xs,i≤cnt∧s15=.int .i64 ((i:Nat):Int)∧s9=.slice Ar nr cr∧Rd .u8 256 w B Ar nr l'∧nr≤cr∧nr≤n∧l'.length < F∧MJ w wr S 24 An nn cn done xs∧nn=i∧(∀ i,i < S→i≠w.heap.size→wr.heap[i]? = w2.heap[i]?)∧R=preX done (zbF (zc9 (zaI F) ns c') (cnt - i) l')) (fun _ s _=>cnt - (intOf s).toNat)
   case atStart=>exact⟨0,A2,n1 - at_,c2,r,none,0,0,[],[],Nat.zero_le _,rfl,rfl,VC.out,GD,by omega,C6,H2.out,rfl,fun _ _ _=>rfl,JH.out⟩
   case round=>
    obtain⟨i,Ar,nr,cr,l',An,nn,cn,done,xs,hi,rfl,rfl,kG,Yy,GA,Uo,hM,JY,hold,gJ⟩:=hrel;subst JY;obtain⟨d0,d1,d2,d3,df⟩:=hM.bx.all;obtain⟨z0,z1,z2,z3,zf⟩:=hM.rs.all;have HM:=zaa hM;have Jv:=kG.len;have KP:=hM.bx.lt;have JI:=hM.rs.lt;have Qs:=hM.low.size;have xH:=hM.ge;have Qa:=kG.below (hM.low.mono Hw.out);clear hM JH H1 H2;by_cases Hi:nn < cnt
    ·obtain⟨p,hp⟩:∃ p,cnt - nn=p+1:=⟨cnt - nn - 1,by omega⟩;rw[hp] at gJ;have Jc:decide ((nn:Int) < (cnt:Int))=true:=decide_eq_true (by omega);cases gI:zaC c' l' with
     | none=>
      have uE:R=none:=by rw[gJ,zgx _ (zmh gI)]
      subst uE;have j9:=zaa (zh7 gI GU Kc B Ar nr cr wr Qa Yy (ydd Hw.out Qs) (by omega));clear gJ hp kG Qa gI hold;go_wp2_with fail
      (with_reducible refine j9.out.mono ?_)
      rintro e w3 ⟨rfl,Hj⟩;have Vo:=HM.out.call Hj;clear d0 d1 d2 d3 df z0 z1 z2 z3 zf;obtain⟨d0,d1,d2,d3,df⟩:=Vo.bx.all;obtain⟨z0,z1,z2,z3,zf⟩:=Vo.rs.all;have hrl3:=Vo.rs.lt;have qT:=zaa Vo;clear Vo Hj;go_wp2;refine bodyPost_ret (v:=.tuple #[.agg #[.int .u8 24,.int .u64 0,.string ⟨#[]⟩,.slice An nn cn],.bool false]) (by simp[results,results118,go_sem,z0,z1,z2,z3]) rfl ?_;refine⟨24,0,⟨#[]⟩,done,An,nn,cn,false,rfl,by omega,by omega,(qT.out.row.nw.far4 (g:=w.heap.size+1) (by omega) _ _ _ _).less (by omega),zae qT.out.low (by omega) _ _ _ _,?_⟩;rw[jV.out];rfl
     | some q=>
      obtain⟨d,r'⟩:=q;obtain⟨GM,Gz,Gq,VI⟩:=zeW gI;have KL:=zh6 gI GU Kc B Ar nr cr wr Qa Yy (ydd Hw.out Qs) (by omega);obtain⟨q1,KU⟩:∃ q1,l'.length - r'.length=q1:=⟨_,rfl⟩;rw[KU] at GM Gz Gq KL;have j9:=zaa KL;have Uq:q1≤nr:=by omega
      have Gp:∀ W:World,(Instr.slice 22 (.slice Ar nr cr) none (some (.int .i64 (q1:Int))) none).run prog W=.ok (.slice Ar q1 cr) W:=fun W=>by
       rw[run_slice_h (P:=prog) (w:=W) 22 Ar nr cr under22 .i64 (q1:Int) (by omega) (by omega),elem22,size5];simp only[Result.andThen,sliced];cases Ar<;>simp[Addr.add]
      have GP:∀ W:World,(Instr.sliceAt 22 (.slice Ar nr cr) none (some (.int .i64 (q1:Int))) none).run prog W=.ok (.slice Ar q1 cr) W:=fun W=>by
       rw[run_sliceAt_slice (P:=prog) (w:=W) 22 _ _ _ _ under22];exact Gp W
      obtain⟨A5,c5,GD,k7,gZ,Gk,gh⟩:=zb Ar nr cr q1 Uq Yy;have Uk:=fun W=>gZ W (q1:Int) rfl;have Ul:=fun W=>Gk W (q1:Int) rfl;have qZ:Rd .u8 256 w B A5 (nr - q1) r':=Gz▸gh w B l' kG;have ju:Rd .u8 256 w B Ar q1 (l'.take q1):=kG.take Uq;have qk:=zaa (fun w' (hb:Below w.heap.size w w')=>show Calls prog 69 #[.int .u8 (c':Int),.slice Ar q1 cr] w' (zbt (zaI F [] c' d) w') by
       have h:=hR c' B Ar q1 cr (l'.take q1) w' GU Kc (ju.below (hb.mono Hw.out)) (ydd Hw.out hb.size) (by omega) (by omega) Gq (by simp only[ydg];omega) (fun e=>by subst e;have:=zoV gI;rw[KU] at this;rw[this];rfl);rw[GM] at h;exact h)
      have V5:=zaa qZ;have yE:r'.length < F:=by omega
      cases ho:zaI F [] c' d with
      | none=>
       have uE:R=none:=by rw[gJ,zgx _ (zq8 gI ho)]
       subst uE;rw[ho] at qk;clear gJ hp kG Qa gI hold GD k7 gZ Gk Uk Ul gh qZ ju GM Gz Gq VI KU KL ho V5;go_wp2_with fail
       (with_reducible refine j9.out.mono ?_)
       rintro e w3 ⟨rfl,Hj⟩;have qT:=zaa (HM.out.call Hj);clear Hj;go_wp2_with fail
       (with_reducible refine(qk.out _ qT.out.low).mono ?_)
       rintro e w4 ⟨vk,vn,vt,vks,vA,vl,vc,vb,rfl,Kb,kC,j7,gl,Qv⟩;obtain rfl:vb=false:=Qv;have kD:=qT.out.call gl;clear d0 d1 d2 d3 df z0 z1 z2 z3 zf j7 gl;obtain⟨d0,d1,d2,d3,df⟩:=kD.bx.all;obtain⟨z0,z1,z2,z3,zf⟩:=kD.rs.all;have hbl4:=kD.bx.lt;have C7:=kD.rs.lt;have yh:¬ w.heap.size=w4.heap.size:=by omega
       have uS:¬ w.heap.size+1=w4.heap.size:=by omega
       have bG:=zaa kD;clear kD;go_wp2;refine bodyPost_ret (v:=.tuple #[.agg #[.int .u8 24,.int .u64 0,.string ⟨#[]⟩,.slice An nn cn],.bool false]) (by simp[results,results118,go_sem,z0,z1,z2,z3,C7]) rfl ?_;refine⟨24,0,⟨#[]⟩,done,An,nn,cn,false,rfl,by omega,by omega,((bG.out.row.nw.far4 (g:=w.heap.size+1) (by have:=bG.out.ge;omega) _ _ _ _).call ((za _ _))).less (by have:=bG.out.ge;omega),(zae bG.out.low (by omega) _ _ _ _).alloc (by simp;omega) _,?_⟩;rw[jV.out];rfl
      | some u=>
       have uF:R=preX (done++[zap ns u]) (zbF (zc9 (zaI F) ns c') p r'):=by rw[gJ,zjE _ (zoX gI ho)]
       have QU:=zaa uF;have Jn:cnt - (nn+1)=p:=by omega
       rw[ho] at qk;obtain⟨i0,Qm,gE,Hn,gb⟩:=info_parts zdb;have JA:=HM.out.row.own.lt;have qy:=zaa JA;have Ur:=zaa hold;clear gJ hp kG Qa gI hold k7 gZ Gk gh qZ ju GM Gz Gq VI KU KL ho uF JA;go_wp2_with fail
       (with_reducible refine j9.out.mono ?_)
       rintro e w3 ⟨rfl,Hj⟩;have C8:=zaa (HM.out.call Hj);have Gv:=zaa Hj;clear Hj;go_wp2_with fail
       (with_reducible refine(qk.out _ C8.out.low).mono ?_)
       rintro e w4' ⟨vk,vn,vt,vks,vA,vl,vc,vb,rfl,Kb,kC,j7,V6,Qv⟩;obtain⟨rfl,cT⟩:vb=true∧_:=Qv;subst cT;have Yz:Below wr.heap.size wr (w4'.alloc (.cells #[.int .u8 (vk:Int),.int .u64 (vn:Int),.string vt,.slice vA vl vc] 43)):=(zad Gv.out V6).alloc (zad Gv.out V6).size _;obtain⟨gv,Qq⟩:∃ g,w4'.heap.size=g:=⟨_,rfl⟩;have jn:=Gv.out.size;have Vs:=V6.size;have KM:(Value.slice An nn cn).ownBlock=some gv→False:=fun e=>by have:=(qy.out gv e).2;omega
       obtain⟨wq,uG⟩:∃ wq,w4'.alloc (.cells #[.int .u8 (vk:Int),.int .u64 (vn:Int),.string vt,.slice vA vl vc] 43)=wq:=⟨_,rfl⟩;have C9:Box wq gv (.int .u8 (vk:Int)) (.int .u64 (vn:Int)) (.string vt) (.slice vA vl vc):=by rw[←Qq,←uG];exact Box.new w4' _ _ _ _
       have hVN:Nw w3.heap.size wq vks vA vl vc:=uG▸j7.call ((za _ _));rw[uG] at Yz;have hMq:=HM.out.call Yz;have hzA:=Yz.size;have Us:Nw w1.heap.size wq ns Ans ns.length cns:=(HNS.out.keep fun i hi=>(Yz.block i (by have:=hi.2;omega)).trans (Ur.out i (by have:=hi.2;omega) (by have:=hi.1;omega))).mono fun i hi=>⟨hi.1,by have:=hi.2;omega⟩;have hqs:w3.heap.size≤wq.heap.size:=by rw[←uG];simp;omega
       have HCL:=zaa (fun w' (hb:Below wq.heap.size wq w')=>zcU (BN:=w1.heap.size) w3.heap.size ns Ans ns.length cns vk vn vt vks vA vl vc w' (ydd hqs hb.size) (Us.call hb) vS.out yD Kb kC (hVN.call hb));have KN:w.heap.size≠gv:=by omega
       have Vm:=Below.refl wq.heap.size wq;have yF:=zaa (show ∀ i,i < S→i≠w.heap.size→wq.heap[i]? = w2.heap[i]? from fun i hi Hp=>(Yz.block i (by omega)).trans (Ur.out i hi Hp));have qT:=zaa hMq;have KC:=zaa C9;clear d0 d1 d2 d3 df z0 z1 z2 z3 zf j7 V6 hVN Us hMq Yz;obtain⟨d0,d1,d2,d3,df⟩:=qT.out.bx.all;obtain⟨b0,b1,b2,b3,bf⟩:=KC.out.all;have hSq:=qT.out.ge;have hnn40:nn≤1024:=by omega
       have hcp:=zbi qT.out.row.own;have hvlq:=KC.out.lt;go_upto_region 17 with fail
       (try rw[uG]);(try rw[Qq])
       refine wp_region_held_drew (S:=fun wx=>wx.cell? ⟨gv,0,none⟩=some (.int .u8 (vk:Int))∧wx.cell? ⟨gv,1,none⟩=some (.int .u64 (vn:Int))∧wx.cell? ⟨gv,2,none⟩=some (.string vt)∧wx.cell? ⟨gv,3,none⟩=some (.slice vA vl vc)) (by kernel_rfl) (by exact⟨b0,b1,b2,b3⟩) (fun hHeld=>?_)
       (refine T5K 0 ⟨some 68,_,_,_,_,_⟩ ?_ rfl (by kernel_rfl) (fun _ _ _ h=>h) ?_ (by assumption) ?_;rotate_left 1;(· intro wx Hc;(try dsimp only at Hc);(try obtain⟨kN,gu,Gw,jg⟩:=Hc);go_simp;(try with_reducible rfl)))
       try simp only[Act.put,sA,sB,sC]
       (refine T5K 2 ⟨some 70,_,_,_,_,_⟩ ?_ rfl (by kernel_rfl) (fun _ _ _ h=>h) ?_ (by assumption) ?_;rotate_left 1;(· intro wx Hc;(try dsimp only at Hc);(try obtain⟨kN,gu,Gw,jg⟩:=Hc);go_simp;(try with_reducible rfl)))
       try simp only[Act.put,sA,sB,sC]
       (refine T5K 3 ⟨some 71,_,_,_,_,_⟩ ?_ rfl (by kernel_rfl) (fun _ _ _ h=>h) ?_ (by assumption) ?_;rotate_left 1;(· intro wx Hc;(try dsimp only at Hc);(try obtain⟨kN,gu,Gw,jg⟩:=Hc);go_simp;(try with_reducible rfl)))
       try simp only[Act.put,sA,sB,sC]
       refine wpAnyH_ready (rs:=[1,4]) (by kernel_rfl) (by simp) ?_;refine AllReadyH.cons (o:=⟨some 69,_,_,_,_,_⟩) rfl (fun K hK=>?_) (AllReadyH.cons (o:=⟨some 72,_,_,_,_,_⟩) rfl (fun K hK=>?_) AllReadyH.nil)
       ·go_simp;go_wp2_with fail;refine hK.out _ _ ?_ (fun hHeld=>?_)
        ·exact(by assumption)
        clear hK K
        try simp only[Act.put,sA,sB,sC]
        refine wpAnyH_ready (rs:=[4]) (by kernel_rfl) (by simp) ?_;refine AllReadyH.cons (o:=⟨some 72,_,_,_,_,_⟩) rfl (fun K hK=>?_) AllReadyH.nil;go_simp;go_at_call 71
        with_reducible refine(HCL.out _ (by first | exact Vm | exact Vm.drew)).mono ?_
        rintro e w4 ⟨rk,rn,rt,rks,rA,rl,rc,XJ,jN,J3,rfl,jW,gl⟩;have K8:Below wq.heap.size wq w4:=((Below.refl wq.heap.size wq).drew).trans gl;have kD:=qT.out.call K8;obtain⟨y0,y1,y2,y3,yf⟩:=kD.bx.all;have e3:=y3;have a3:=fun o=>(((Below.refl w4.heap.size w4).alloc zab o).cell (p:=⟨w.heap.size,3,none⟩) kD.bx.lt).trans y3;have VO:=KC.out.call K8;obtain⟨v0,v1,v2,v3,vf⟩:=VO.all;have yN:=VO.all;have KD:=fun o=>(VO.call ((Below.refl w4.heap.size w4).alloc zab o)).all;have C':=VO.lt;have da:=kD.ge;have db:=zbi kD.row.own;go_wp2_with fail;refine hK.out _ _ ?_ (fun hHeld=>?_)
        ·exact⟨v0,v1,v2,v3⟩
        clear hK K
        try simp only[Act.put,sA,sB,sC]
        refine wpAnyH_ready (rs:=[5]) (by kernel_rfl) (by simp) ?_;refine AllReadyH.cons (o:=⟨some 73,_,_,_,_,_⟩) rfl (fun K hK=>?_) AllReadyH.nil;go_simp;go_wp2_with fail;refine hK.out _ _ ?_ (fun hHeld=>?_)
        ·exact⟨(KD _).1,(KD _).2.1,(KD _).2.2.1,(KD _).2.2.2.1⟩
        clear hK K
        try simp only[Act.put,sA,sB,sC]
        refine wpAnyH_ready (rs:=[6]) (by kernel_rfl) (by simp) ?_;refine AllReadyH.cons (o:=⟨some 74,_,_,_,_,_⟩) rfl (fun K hK=>?_) AllReadyH.nil
        skip
        have qw:=kD.call ((Below.refl _ _).alloc zab (.cells #[.int .u8 (rk:Int),.int .u64 (rn:Int),.string rt,.slice rA rl rc] 43));have Ut:=K8.size;have Uu:=kD.bx.lt;refine step_append_lies _ rfl _ _ 41 rfl S 43 i0 _ 4 56 underlying41 Qm gE Hn gb rfl (by omega) _ _ _ rfl (by exact(kD.row.own.alloc _)) ⟨w4.heap.size,0,none⟩ 1 1 [.int .u8 (rk:Int),.int .u64 (rn:Int),.string rt,.slice rA rl rc] rfl rfl (news4 _ _ _ _ _ _ _ rfl) (fun u hu=>(by simp at hu;rcases hu with rfl | rfl | rfl | rfl<;>rfl)) (by omega) (by unfold maxLen;omega) (by omega) (by have:=kD.ge;simp;omega) _ rfl ?_;intro g9 cap9 w9 Hb Hd Hv Gl;have x3:=(Hd.cell_far ⟨w.heap.size,3,none⟩ (by simp;omega) (fun e=>by have:=(qy.out w.heap.size e.symm).1;omega)).trans (a3 _);have xf:=fun j=>(Hd.frozen_far ⟨w.heap.size,j,none⟩ (by simp;omega) (fun e=>by have:=(qy.out w.heap.size e.symm).1;omega)).trans (qw.bx.all.2.2.2.2 j);have Kn:w9.cell? ⟨gv,0,none⟩=some (.int .u8 (vk:Int))∧w9.cell? ⟨gv,1,none⟩=some (.int .u64 (vn:Int))∧w9.cell? ⟨gv,2,none⟩=some (.string vt)∧w9.cell? ⟨gv,3,none⟩=some (.slice vA vl vc):=⟨(Hd.cell_far ⟨gv,0,none⟩ (by simp;omega) (fun e=>KM e.symm)).trans (KD _).1,(Hd.cell_far ⟨gv,1,none⟩ (by simp;omega) (fun e=>KM e.symm)).trans (KD _).2.1,(Hd.cell_far ⟨gv,2,none⟩ (by simp;omega) (fun e=>KM e.symm)).trans (KD _).2.2.1,(Hd.cell_far ⟨gv,3,none⟩ (by simp;omega) (fun e=>KM e.symm)).trans (KD _).2.2.2.1⟩;have hL:=kD.more jN J3 (jW.mono fun i hi=>⟨by have:=hi.1;omega,hi.2,fun e=>by have:=(qy.out i e).2;have:=hi.1;omega⟩) _ Hb Hd (Hv.imp id fun h=>by simp at h ⊢;omega);go_wp2_with fail;refine hK.out _ _ ?_ (fun hHeld=>?_)
        ·exact Kn
        clear hK K
        try simp only[Act.put,sA,sB,sC]
        (refine T5K 7 ⟨some 75,_,_,_,_,_⟩ ?_ rfl (by kernel_rfl) (fun _ _ _ h=>h) ?_ (by assumption) ?_;rotate_left 1;(· intro wx Hc;(try dsimp only at Hc);(try obtain⟨kN,gu,Gw,jg⟩:=Hc);go_simp;(try with_reducible rfl)))
        try simp only[Act.put,sA,sB,sC]
        refine wpAnyH_ready (rs:=[8]) (by kernel_rfl) (by simp) ?_;refine AllReadyH.cons (o:=⟨none,_,_,_,_,_⟩) rfl (fun K hK=>?_) AllReadyH.nil;go_simp;go_wp2_with fail;refine hK.out _ _ ?_ (fun hHeld=>?_)
        ·exact⟨(World.cell?_setCell_far _ _ _ _ (show w.heap.size≠gv from KN)).trans Kn.1,(World.cell?_setCell_far _ _ _ _ (show w.heap.size≠gv from KN)).trans Kn.2.1,(World.cell?_setCell_far _ _ _ _ (show w.heap.size≠gv from KN)).trans Kn.2.2.1,(World.cell?_setCell_far _ _ _ _ (show w.heap.size≠gv from KN)).trans Kn.2.2.2⟩
        clear hK K
        try simp only[Act.put,sA,sB,sC]
        refine wpAnyH_done (by kernel_rfl) ?_ _;go_wp2_with fail;go_roundw
        case measure=>simp[intOf];omega
        case rel=>exact⟨nn+1,A5,nr - q1,c5,r',_,_,_,done++[.mk rk rn rt rks],_,by omega,by go_num,rfl,V5.out,GD,by omega,yE,hL.1,rfl,fun i hi Hp=>(hL.2 i hi Hp).trans ((K8.block i (by omega)).trans (yF.out i hi Hp)),by rw[Jn,←XJ];exact QU.out⟩
       ·go_simp;go_at_call 71
        with_reducible refine(HCL.out _ (by first | exact Vm | exact Vm.drew)).mono ?_
        rintro e w4 ⟨rk,rn,rt,rks,rA,rl,rc,XJ,jN,J3,rfl,jW,gl⟩;have K8:Below wq.heap.size wq w4:=((Below.refl wq.heap.size wq).drew).trans gl;have kD:=qT.out.call K8;obtain⟨y0,y1,y2,y3,yf⟩:=kD.bx.all;have e3:=y3;have a3:=fun o=>(((Below.refl w4.heap.size w4).alloc zab o).cell (p:=⟨w.heap.size,3,none⟩) kD.bx.lt).trans y3;have VO:=KC.out.call K8;obtain⟨v0,v1,v2,v3,vf⟩:=VO.all;have yN:=VO.all;have KD:=fun o=>(VO.call ((Below.refl w4.heap.size w4).alloc zab o)).all;have C':=VO.lt;have da:=kD.ge;have db:=zbi kD.row.own;go_wp2_with fail;refine hK.out _ _ ?_ (fun hHeld=>?_)
        ·exact⟨v0,v1,v2,v3⟩
        clear hK K
        try simp only[Act.put,sA,sB,sC]
        refine wpAnyH_ready (rs:=[1,5]) (by kernel_rfl) (by simp) ?_;refine AllReadyH.cons (o:=⟨some 69,_,_,_,_,_⟩) rfl (fun K hK=>?_) (AllReadyH.cons (o:=⟨some 73,_,_,_,_,_⟩) rfl (fun K hK=>?_) AllReadyH.nil)
        ·go_simp;go_wp2_with fail;refine hK.out _ _ ?_ (fun hHeld=>?_)
         ·exact(by assumption)
         clear hK K
         try simp only[Act.put,sA,sB,sC]
         refine wpAnyH_ready (rs:=[5]) (by kernel_rfl) (by simp) ?_;refine AllReadyH.cons (o:=⟨some 73,_,_,_,_,_⟩) rfl (fun K hK=>?_) AllReadyH.nil;go_simp;go_wp2_with fail;refine hK.out _ _ ?_ (fun hHeld=>?_)
         ·exact⟨(KD _).1,(KD _).2.1,(KD _).2.2.1,(KD _).2.2.2.1⟩
         clear hK K
         try simp only[Act.put,sA,sB,sC]
         refine wpAnyH_ready (rs:=[6]) (by kernel_rfl) (by simp) ?_;refine AllReadyH.cons (o:=⟨some 74,_,_,_,_,_⟩) rfl (fun K hK=>?_) AllReadyH.nil
         skip
         have qw:=kD.call ((Below.refl _ _).alloc zab (.cells #[.int .u8 (rk:Int),.int .u64 (rn:Int),.string rt,.slice rA rl rc] 43));have Ut:=K8.size;have Uu:=kD.bx.lt;refine step_append_lies _ rfl _ _ 41 rfl S 43 i0 _ 4 56 underlying41 Qm gE Hn gb rfl (by omega) _ _ _ rfl (by exact(kD.row.own.alloc _)) ⟨w4.heap.size,0,none⟩ 1 1 [.int .u8 (rk:Int),.int .u64 (rn:Int),.string rt,.slice rA rl rc] rfl rfl (news4 _ _ _ _ _ _ _ rfl) (fun u hu=>(by simp at hu;rcases hu with rfl | rfl | rfl | rfl<;>rfl)) (by omega) (by unfold maxLen;omega) (by omega) (by have:=kD.ge;simp;omega) _ rfl ?_;intro g9 cap9 w9 Hb Hd Hv Gl;have x3:=(Hd.cell_far ⟨w.heap.size,3,none⟩ (by simp;omega) (fun e=>by have:=(qy.out w.heap.size e.symm).1;omega)).trans (a3 _);have xf:=fun j=>(Hd.frozen_far ⟨w.heap.size,j,none⟩ (by simp;omega) (fun e=>by have:=(qy.out w.heap.size e.symm).1;omega)).trans (qw.bx.all.2.2.2.2 j);have Kn:w9.cell? ⟨gv,0,none⟩=some (.int .u8 (vk:Int))∧w9.cell? ⟨gv,1,none⟩=some (.int .u64 (vn:Int))∧w9.cell? ⟨gv,2,none⟩=some (.string vt)∧w9.cell? ⟨gv,3,none⟩=some (.slice vA vl vc):=⟨(Hd.cell_far ⟨gv,0,none⟩ (by simp;omega) (fun e=>KM e.symm)).trans (KD _).1,(Hd.cell_far ⟨gv,1,none⟩ (by simp;omega) (fun e=>KM e.symm)).trans (KD _).2.1,(Hd.cell_far ⟨gv,2,none⟩ (by simp;omega) (fun e=>KM e.symm)).trans (KD _).2.2.1,(Hd.cell_far ⟨gv,3,none⟩ (by simp;omega) (fun e=>KM e.symm)).trans (KD _).2.2.2.1⟩;have hL:=kD.more jN J3 (jW.mono fun i hi=>⟨by have:=hi.1;omega,hi.2,fun e=>by have:=(qy.out i e).2;have:=hi.1;omega⟩) _ Hb Hd (Hv.imp id fun h=>by simp at h ⊢;omega);go_wp2_with fail;refine hK.out _ _ ?_ (fun hHeld=>?_)
         ·exact Kn
         clear hK K
         try simp only[Act.put,sA,sB,sC]
         (refine T5K 7 ⟨some 75,_,_,_,_,_⟩ ?_ rfl (by kernel_rfl) (fun _ _ _ h=>h) ?_ (by assumption) ?_;rotate_left 1;(· intro wx Hc;(try dsimp only at Hc);(try obtain⟨kN,gu,Gw,jg⟩:=Hc);go_simp;(try with_reducible rfl)))
         try simp only[Act.put,sA,sB,sC]
         refine wpAnyH_ready (rs:=[8]) (by kernel_rfl) (by simp) ?_;refine AllReadyH.cons (o:=⟨none,_,_,_,_,_⟩) rfl (fun K hK=>?_) AllReadyH.nil;go_simp;go_wp2_with fail;refine hK.out _ _ ?_ (fun hHeld=>?_)
         ·exact⟨(World.cell?_setCell_far _ _ _ _ (show w.heap.size≠gv from KN)).trans Kn.1,(World.cell?_setCell_far _ _ _ _ (show w.heap.size≠gv from KN)).trans Kn.2.1,(World.cell?_setCell_far _ _ _ _ (show w.heap.size≠gv from KN)).trans Kn.2.2.1,(World.cell?_setCell_far _ _ _ _ (show w.heap.size≠gv from KN)).trans Kn.2.2.2⟩
         clear hK K
         try simp only[Act.put,sA,sB,sC]
         refine wpAnyH_done (by kernel_rfl) ?_ _;go_wp2_with fail;go_roundw
         case measure=>simp[intOf];omega
         case rel=>exact⟨nn+1,A5,nr - q1,c5,r',_,_,_,done++[.mk rk rn rt rks],_,by omega,by go_num,rfl,V5.out,GD,by omega,yE,hL.1,rfl,fun i hi Hp=>(hL.2 i hi Hp).trans ((K8.block i (by omega)).trans (yF.out i hi Hp)),by rw[Jn,←XJ];exact QU.out⟩
        ·go_simp;go_wp2_with fail;refine hK.out _ _ ?_ (fun hHeld=>?_)
         ·exact⟨(KD _).1,(KD _).2.1,(KD _).2.2.1,(KD _).2.2.2.1⟩
         clear hK K
         try simp only[Act.put,sA,sB,sC]
         refine wpAnyH_ready (rs:=[1]) (by kernel_rfl) (by simp) ?_;refine AllReadyH.cons (o:=⟨some 69,_,_,_,_,_⟩) rfl (fun K hK=>?_) AllReadyH.nil;go_simp;go_wp2_with fail;refine hK.out _ _ ?_ (fun hHeld=>?_)
         ·exact(by assumption)
         clear hK K
         try simp only[Act.put,sA,sB,sC]
         refine wpAnyH_ready (rs:=[6]) (by kernel_rfl) (by simp) ?_;refine AllReadyH.cons (o:=⟨some 74,_,_,_,_,_⟩) rfl (fun K hK=>?_) AllReadyH.nil
         skip
         have qw:=kD.call ((Below.refl _ _).alloc zab (.cells #[.int .u8 (rk:Int),.int .u64 (rn:Int),.string rt,.slice rA rl rc] 43));have Ut:=K8.size;have Uu:=kD.bx.lt;refine step_append_lies _ rfl _ _ 41 rfl S 43 i0 _ 4 56 underlying41 Qm gE Hn gb rfl (by omega) _ _ _ rfl (by exact(kD.row.own.alloc _)) ⟨w4.heap.size,0,none⟩ 1 1 [.int .u8 (rk:Int),.int .u64 (rn:Int),.string rt,.slice rA rl rc] rfl rfl (news4 _ _ _ _ _ _ _ rfl) (fun u hu=>(by simp at hu;rcases hu with rfl | rfl | rfl | rfl<;>rfl)) (by omega) (by unfold maxLen;omega) (by omega) (by have:=kD.ge;simp;omega) _ rfl ?_;intro g9 cap9 w9 Hb Hd Hv Gl;have x3:=(Hd.cell_far ⟨w.heap.size,3,none⟩ (by simp;omega) (fun e=>by have:=(qy.out w.heap.size e.symm).1;omega)).trans (a3 _);have xf:=fun j=>(Hd.frozen_far ⟨w.heap.size,j,none⟩ (by simp;omega) (fun e=>by have:=(qy.out w.heap.size e.symm).1;omega)).trans (qw.bx.all.2.2.2.2 j);have Kn:w9.cell? ⟨gv,0,none⟩=some (.int .u8 (vk:Int))∧w9.cell? ⟨gv,1,none⟩=some (.int .u64 (vn:Int))∧w9.cell? ⟨gv,2,none⟩=some (.string vt)∧w9.cell? ⟨gv,3,none⟩=some (.slice vA vl vc):=⟨(Hd.cell_far ⟨gv,0,none⟩ (by simp;omega) (fun e=>KM e.symm)).trans (KD _).1,(Hd.cell_far ⟨gv,1,none⟩ (by simp;omega) (fun e=>KM e.symm)).trans (KD _).2.1,(Hd.cell_far ⟨gv,2,none⟩ (by simp;omega) (fun e=>KM e.symm)).trans (KD _).2.2.1,(Hd.cell_far ⟨gv,3,none⟩ (by simp;omega) (fun e=>KM e.symm)).trans (KD _).2.2.2.1⟩;have hL:=kD.more jN J3 (jW.mono fun i hi=>⟨by have:=hi.1;omega,hi.2,fun e=>by have:=(qy.out i e).2;have:=hi.1;omega⟩) _ Hb Hd (Hv.imp id fun h=>by simp at h ⊢;omega);go_wp2_with fail;refine hK.out _ _ ?_ (fun hHeld=>?_)
         ·exact Kn
         clear hK K
         try simp only[Act.put,sA,sB,sC]
         (refine T5K 7 ⟨some 75,_,_,_,_,_⟩ ?_ rfl (by kernel_rfl) (fun _ _ _ h=>h) ?_ (by assumption) ?_;rotate_left 1;(· intro wx Hc;(try dsimp only at Hc);(try obtain⟨kN,gu,Gw,jg⟩:=Hc);go_simp;(try with_reducible rfl)))
         try simp only[Act.put,sA,sB,sC]
         refine wpAnyH_ready (rs:=[8]) (by kernel_rfl) (by simp) ?_;refine AllReadyH.cons (o:=⟨none,_,_,_,_,_⟩) rfl (fun K hK=>?_) AllReadyH.nil;go_simp;go_wp2_with fail;refine hK.out _ _ ?_ (fun hHeld=>?_)
         ·exact⟨(World.cell?_setCell_far _ _ _ _ (show w.heap.size≠gv from KN)).trans Kn.1,(World.cell?_setCell_far _ _ _ _ (show w.heap.size≠gv from KN)).trans Kn.2.1,(World.cell?_setCell_far _ _ _ _ (show w.heap.size≠gv from KN)).trans Kn.2.2.1,(World.cell?_setCell_far _ _ _ _ (show w.heap.size≠gv from KN)).trans Kn.2.2.2⟩
         clear hK K
         try simp only[Act.put,sA,sB,sC]
         refine wpAnyH_done (by kernel_rfl) ?_ _;go_wp2_with fail;go_roundw
         case measure=>simp[intOf];omega
         case rel=>exact⟨nn+1,A5,nr - q1,c5,r',_,_,_,done++[.mk rk rn rt rks],_,by omega,by go_num,rfl,V5.out,GD,by omega,yE,hL.1,rfl,fun i hi Hp=>(hL.2 i hi Hp).trans ((K8.block i (by omega)).trans (yF.out i hi Hp)),by rw[Jn,←XJ];exact QU.out⟩
    ·have JS:cnt - nn=0:=by omega
     have cR:R=some (done,l'):=by rw[gJ,JS];simp[zbF,preX]
     subst cR;have Jc:decide ((nn:Int) < (cnt:Int))=false:=decide_eq_false (by omega);clear gJ kG Qa hold;by_cases hz:nr=0
     ·have qp:l'=[]:=yde (by omega);subst hz qp;go_wp2;refine bodyPost_ret (v:=.tuple #[.agg #[.int .u8 24,.int .u64 0,.string ⟨#[]⟩,.slice An nn cn],.bool true]) (by simp[results,results118,go_sem,z0,z1,z2,z3]) rfl ?_;refine⟨24,0,⟨#[]⟩,done,An,nn,cn,true,rfl,by omega,by omega,(HM.out.row.nw.far4 (g:=w.heap.size+1) (by omega) _ _ _ _).less (by omega),zae HM.out.low (by omega) _ _ _ _,?_⟩;rw[jV.out];exact⟨rfl,rfl⟩
     ·have hdz:((nr:Int)==0)=false:=by rw[zac];omega
      obtain⟨x,xs',qp⟩:∃ x xs',l'=x::xs':=by
       cases l' with
       | nil=>simp at Jv;omega
       | cons x xs'=>exact⟨x,xs',rfl⟩
      go_wp2;refine bodyPost_ret (v:=.tuple #[.agg #[.int .u8 24,.int .u64 0,.string ⟨#[]⟩,.slice An nn cn],.bool false]) (by simp[results,results118,go_sem,z0,z1,z2,z3]) rfl ?_;refine⟨24,0,⟨#[]⟩,done,An,nn,cn,false,rfl,by omega,by omega,(HM.out.row.nw.far4 (g:=w.heap.size+1) (by omega) _ _ _ _).less (by omega),zae HM.out.low (by omega) _ _ _ _,?_⟩;rw[jV.out,qp];rfl
theorem zvG {F:Nat}(hR:zkf F)(c:Nat)(hc:c < 256)(hk:kof c=24)(B:Nat)(A:Oz)(n m:Nat)(l:Lz)(w:World)(hr:Rd .u8 256 w B A n l)(hB:B≤w.heap.size)(hm:n≤m)(hn:n≤1099511627776)(Hu:sw c≤n)(hF:l.length≤F) :
  Calls prog 69 #[.int .u8 (c:Int),.slice A n m] w (zbt ((zbH (zaI F) c (l.drop (sw c))).map fun vs=>.mk 24 0 ⟨#[]⟩ vs) w):=by
 have HK:=zaa (fun w=>zat c hc w);rw[hk] at HK;have gD:=zaa (show Below w.heap.size w (w.alloc (.cells #[.int .u8 0,.int .u64 0,.string ⟨#[]⟩,.slice none 0 0] 43)) from (za _ _));have gG:=zaa (Box.new w (.int .u8 0) (.int .u64 0) (.string ⟨#[]⟩) (.slice none 0 0));have HR:=zaa hr;have Hw:=zaa hB;have xI:=zaa (fun w' (hb:Below w.heap.size w w')=>show Calls prog 118 #[.agg #[.int .u8 24,.int .u64 0,.string ⟨#[]⟩,.slice none 0 0],.int .u8 (c:Int),.slice A n m] w' (zbt ((zbH (zaI F) c (l.drop (sw c))).map fun vs=>.mk 24 0 ⟨#[]⟩ vs) w') from
  zo0 hR c hc hk B A n m l w' (hr.below (hb.mono hB)) (ydd hB hb.size) hm hn Hu hF)
 obtain⟨o,ho⟩:∃ o,((zbH (zaI F) c (l.drop (sw c))).map fun vs=>V.mk 24 0 ⟨#[]⟩ vs)=o:=⟨_,rfl⟩;rw[ho] at xI ⊢;clear hr hB hk hF ho;go_enter func69,ntmps69;go_wp2_with fail
 (with_reducible refine(HK.out _).mono ?_)
 rintro e w1 ⟨rfl,Ha⟩;have Hn:=Ha.size;simp only[World.size_alloc] at Hn;have gq:=zaa (zad gD.out Ha);have Hl:=zaa (gq.out.alloc (by omega) (.cells #[.int .u8 24,.int .u64 0,.string ⟨#[]⟩,.slice none 0 0] 43));have kR:=zaa ((gG.out.call Ha).call ((Below.refl _ _).alloc zab (.cells #[.int .u8 24,.int .u64 0,.string ⟨#[]⟩,.slice none 0 0] 43)));obtain⟨d0,d1,d2,d3,df⟩:=(gG.out.call Ha).all;have Hi:w.heap.size < w1.heap.size:=by omega
 have Hp:¬ w.heap.size=w1.heap.size:=by omega
 clear Ha;go_wp2_with fail
 (with_reducible refine(zax B A n m l _ (HR.out.below (Hl.out.mono Hw.out))).mono ?_)
 rintro e w2 ⟨⟨pp,rfl⟩,rfl⟩;obtain⟨N,hN⟩:∃ N,tn l=N:=⟨_,rfl⟩;rw[hN];clear hN;go_wp2_with fail
 (with_reducible refine(xI.out _ Hl.out).mono ?_)
 rintro e w3 ⟨rk,rn,rt,rks,rA,rl,rc,rb,rfl,jN,J3,jW,Hj,qx⟩;clear d0 d1 d2 d3 df;obtain⟨d0,d1,d2,d3,df⟩:=(kR.out.call Hj).all;have Gv:=zaa (zad Hl.out Hj);have jn:=Hj.size;simp only[World.size_alloc] at jn jW;have ku:=zaa jW;have QU:=zaa qx;clear Hj jW qx;go_wp2;refine bodyPost_ret (v:=.tuple #[.agg #[.int .u8 (rk:Int),.int .u64 (rn:Int),.string rt,.slice rA rl rc],.bool rb]) (by simp[results,results69,go_sem,d0,d1,d2,d3]) rfl ?_;exact⟨rk,rn,rt,rks,rA,rl,rc,rb,rfl,jN,J3,(ku.out.far4 (g:=w.heap.size) (by omega) _ _ _ _).less (by omega),zae Gv.out zab _ _ _ _,QU.out⟩
theorem zo1 (c:Nat)(d:Lz)(hd:∀ x∈d,x < 256):(zag c d).kind < 256∧(zag c d).num < 18446744073709551616:=by
 have h:=zgL c;have hs:=zrb (tn d) d.length (zif d hd);have ht:=zif d hd;unfold zag
 split
 ·exact⟨by simp[V.kind],by simp[V.num]⟩
 ·split
  ·refine⟨by simp[V.kind],?_⟩
   show (if c=65 then 1 else tn d) < _
   split<;>omega
  ·split
   ·exact⟨by show kof c < 256;omega,hs⟩
   ·split
    ·exact⟨by show kof c < 256;omega,by simp[V.num]⟩
    ·exact⟨by show kof c < 256;omega,ht⟩
theorem zo2 (F:Nat)(c:Nat)(d:Lz)(h:¬ kof c < 22):zaI (F+1) [] c d=(zbH (zaI F) c d).map fun vs=>.mk (kof c) 0 ⟨#[]⟩ vs:=by
 rw[zaI,if_neg h];cases zbH (zaI F) c d<;>rfl
theorem zuZ:∀ F,zkf F
 | 0=>fun c B A n m l w _ _ _ _ _ _ _ h _=>absurd h (Nat.not_lt_zero _)
 | F+1=>by
  have ih:=zuZ F;intro c B A n m l w hc kB hr hB hm hn Hu hl Je;have jJ:=zgL c;by_cases kJ:kof c < 22
  ·rw[zaI,if_pos kJ];refine(zha c hc kB kJ B A n m l w hr hB hm Hu).mono ?_;rintro e w' ⟨rfl,hb⟩;have GZ:=zo1 c (l.drop (sw c)) (fun x hx=>hr.lim x (List.mem_of_mem_drop hx));have Kf:=zbv c (l.drop (sw c));obtain⟨v,hv⟩:∃ v,zag c (l.drop (sw c))=v:=⟨_,rfl⟩;rw[hv] at GZ Kf ⊢;cases v with
   | mk k n t ks=>
    obtain rfl:ks=[]:=Kf;exact⟨k,n,t,[],none,0,0,true,rfl,GZ.1,GZ.2,Val.Kids.none_ _ _ _ _ _,hb,rfl,rfl⟩
  ·rw[zo2 F c _ kJ];rcases(by omega:kof c=22∨kof c=23∨kof c=24) with h | h | h
   ·rw[h];exact zvE ih c hc h B A n m l w hr hB hm hn Hu (by omega) Je
   ·rw[h];exact zvF ih c hc h B A n m l w hr hB hm hn Hu (by omega) Je
   ·rw[h];exact zvG ih c hc h B A n m l w hr hB hm hn Hu (by omega)
def zls (R:V×Nat×Nat)(w:World)(e:Ending)(w':World):Prop:=∃ k n t ks A l c,R.1=.mk k n t ks∧e=.returned (.tuple #[.agg #[.int .u8 ((k:Nat):Int),.int .u64 ((n:Nat):Int),.string t,.slice A l c],.int .i64 ((R.2.1:Nat):Int),.int .i64 ((R.2.2:Nat):Int)])∧k < 256∧n < 18446744073709551616∧Nw w.heap.size w' ks A l c∧Below w.heap.size w w'
theorem zo3 (B:Nat)(A:Oz)(n m:Nat)(l:Lz)(w:World)(hr:Rd .u8 256 w B A n l)(hB:B≤w.heap.size)(hm:n≤m)(hn:n≤1099511627776)(GY:∀ v r,valX (zaI l.length) l=.ok (v,r)→bulk v≤16777216) :
  Calls prog 17 #[.slice A n m] w (zls (decX l) w):=by
 have jy:=hr.len;have Hg:Below w.heap.size w (w.alloc (.cells #[.int .u8 0,.int .u64 0,.string ⟨#[]⟩,.slice none 0 0] 43)):=(za _ _);have j1:=Box.new w (.int .u8 0) (.int .u64 0) (.string ⟨#[]⟩) (.slice none 0 0);have gD:=zaa Hg;have gG:=zaa j1;have Hw:=zaa hB;have Ja:=zgw l B A n m _ (hr.below (Hg.mono hB)) (ydd hB Hg.size) hm hn;obtain⟨d0,d1,d2,d3,df⟩:=j1.all;cases hh:headD l with
 | error s=>
  have hd:decX l=(zeroV,0,sel s 7):=by unfold decX valX;rw[hh]
  have HD:=zaa hd;rw[hh] at Ja;have Vp:=zaa Ja;have hs:((((sel s 7:Nat):Int)) != 0)=true:=by cases s<;>rfl
  clear hh hd Ja hr hB GY j1 Hg;go_enter func17,ntmps17;go_wp2_with fail
  (with_reducible refine Vp.out.mono ?_)
  rintro e w2 ⟨rfl,He⟩;obtain⟨S,hS⟩:∃ S:Int,((sel s 7:Nat):Int)=S:=⟨_,rfl⟩;rw[hS] at hs ⊢;have Gb:=zaa (zad gD.out He);clear d0 d1 d2 d3 df;obtain⟨d0,d1,d2,d3,df⟩:=(gG.out.call He).all;clear He;go_wp2;refine bodyPost_ret (v:=.tuple #[.agg #[.int .u8 0,.int .u64 0,.string ⟨#[]⟩,.slice none 0 0],.int .i64 0,.int .i64 S]) (by simp[results,results17,go_sem,d0,d1,d2,d3]) rfl ?_;rw[HD.out,←hS];exact⟨0,0,⟨#[]⟩,[],none,0,0,rfl,rfl,by omega,by omega,Val.Kids.none_ _ _ _ _ _,zae Gb.out zab _ _ _ _⟩
 | ok p=>
  obtain⟨ns,c',r⟩:=p;obtain⟨hlen,js,Kc,GU⟩:=zdN hh;rw[hh] at Ja;obtain⟨at_,gT⟩:∃ a,l.length - r.length=a:=⟨_,rfl⟩;rw[gT] at js;unfold zeV at Ja;simp only at Ja;rw[gT] at Ja;have Vp:=zaa Ja;have hle:at_≤n:=by omega
  obtain⟨A2,c2,GD,k7,gZ,Gk,gh⟩:=zb A n m at_ hle hm;have kG:Rd .u8 256 w B A2 (n - at_) r:=js▸gh w B l hr;have V1:=fun W=>gZ W (at_:Int) rfl;have V3:=fun W=>Gk W (at_:Int) rfl;cases gI:zaC c' r with
  | none=>
   have hd:decX l=(zeroV,0,7):=by unfold decX valX;rw[hh];simp only;rw[gI];rfl
   have HD:=zaa hd;have j9:=zaa (fun w' (hb:Below w.heap.size w w')=>zh7 gI GU Kc B A2 (n - at_) c2 w' (kG.below (hb.mono Hw.out)) GD (ydd Hw.out hb.size) (by omega));clear hh hd Ja hr hB GY j1 Hg js gT kG gI k7 gZ Gk gh;go_enter func17,ntmps17;go_wp2_with fail
   (with_reducible refine Vp.out.mono ?_)
   rintro e w2 ⟨Ans,nns,cns,rfl,VN,He⟩;have Gb:=zaa (zad gD.out He);have kL:=zaa (gG.out.call He);clear He VN;go_wp2_with fail
   (with_reducible refine(j9.out _ Gb.out).mono ?_)
   rintro e w3 ⟨rfl,Hj⟩;have Gv:=zaa (zad Gb.out Hj);clear d0 d1 d2 d3 df;obtain⟨d0,d1,d2,d3,df⟩:=(kL.out.call Hj).all;clear Hj;go_wp2;refine bodyPost_ret (v:=.tuple #[.agg #[.int .u8 0,.int .u64 0,.string ⟨#[]⟩,.slice none 0 0],.int .i64 0,.int .i64 7]) (by simp[results,results17,go_sem,d0,d1,d2,d3]) rfl ?_;rw[HD.out];exact⟨0,0,⟨#[]⟩,[],none,0,0,rfl,rfl,by omega,by omega,Val.Kids.none_ _ _ _ _ _,zae Gv.out zab _ _ _ _⟩
  | some q=>
   obtain⟨d,r'⟩:=q;have j9:=zaa (fun w' (hb:Below w.heap.size w w')=>zh6 gI GU Kc B A2 (n - at_) c2 w' (kG.below (hb.mono Hw.out)) GD (ydd Hw.out hb.size) (by omega));obtain⟨L1,QC⟩:∃ L1,r.length - r'.length=L1:=⟨_,rfl⟩;rw[QC] at j9;have bH:=zaa (fun w' (hb:Below w.heap.size w w')=>zjC (zuZ l.length) B A n m l w' (hr.below (hb.mono Hw.out)) (ydd Hw.out hb.size) hm hn zab);have cU:∀ s,valX (zaI l.length) l=.error s→s=false:=by
    intro s h;unfold valX at h;rw[hh] at h;simp only at h;rw[gI] at h;simp only at h
    revert h
    cases zaI l.length ns c' d<;>intro h
    ·injection h with h;exact h.symm
    ·cases h
   cases hv:valX (zaI l.length) l with
   | error s=>
    obtain rfl:=cU s hv;have hd:decX l=(zeroV,0,6):=by unfold decX;rw[hv];rfl
    have HD:=zaa hd;rw[hv] at bH;clear hh hd Ja hr hB GY j1 Hg js gT kG gI k7 gZ Gk gh hv cU QC;go_enter func17,ntmps17;go_wp2_with fail
    (with_reducible refine Vp.out.mono ?_)
    rintro e w2 ⟨Ans,nns,cns,rfl,VN,He⟩;have Gb:=zaa (zad gD.out He);have kL:=zaa (gG.out.call He);clear He VN;go_wp2_with fail
    (with_reducible refine(j9.out _ Gb.out).mono ?_)
    rintro e w3 ⟨rfl,Hj⟩;have Gv:=zaa (zad Gb.out Hj);have j8:=zaa (kL.out.call Hj);clear Hj;go_wp2_with fail
    (with_reducible refine(bH.out _ Gv.out).mono ?_)
    rintro e w4 ⟨vk,vn,vt,vks,vA,vl,vc,vq,vb,rfl,Kb,kC,j7,gl,Qv⟩;obtain rfl:vb=false:=Qv;have XC:=zaa (zad Gv.out gl);have cV:=j8.out.call gl;clear d0 d1 d2 d3 df;obtain⟨d0,d1,d2,d3,df⟩:=cV.all;have dc:=cV.lt;have Cr:¬ w.heap.size=w4.heap.size:=by omega
    clear gl j7 cV;go_wp2;refine bodyPost_ret (v:=.tuple #[.agg #[.int .u8 0,.int .u64 0,.string ⟨#[]⟩,.slice none 0 0],.int .i64 0,.int .i64 6]) (by simp[results,results17,go_sem,d0,d1,d2,d3,dc]) rfl ?_;rw[HD.out];exact⟨0,0,⟨#[]⟩,[],none,0,0,rfl,rfl,by omega,by omega,Val.Kids.none_ _ _ _ _ _,(zae XC.out zab _ _ _ _).alloc (by have:=XC.out.size;simp;exact this) _⟩
   | ok pv=>
    obtain⟨v,r2⟩:=pv;have de:=GY v r2 hv;have hd:decX l=(if okB v=true then (v,l.length - r2.length,0) else (zeroV,0,6)):=by unfold decX;rw[hv]
    rw[hv] at bH;have HDD:=zaa hd;clear hd hh Ja hr hB GY j1 Hg js gT kG gI k7 gZ Gk gh hv cU QC;go_enter func17,ntmps17;go_wp2_with fail
    (with_reducible refine Vp.out.mono ?_)
    rintro e w2 ⟨Ans,nns,cns,rfl,VN,He⟩;have Gb:=zaa (zad gD.out He);have kL:=zaa (gG.out.call He);clear He VN;go_wp2_with fail
    (with_reducible refine(j9.out _ Gb.out).mono ?_)
    rintro e w3 ⟨rfl,Hj⟩;have Gv:=zaa (zad Gb.out Hj);have j8:=zaa (kL.out.call Hj);clear Hj;go_wp2_with fail
    (with_reducible refine(bH.out _ Gv.out).mono ?_)
    rintro e w4 ⟨vk,vn,vt,vks,vA,vl,vc,vq,vb,rfl,Kb,kC,j7,gl,Qv⟩;obtain⟨YJ,cT,hvq⟩:=Qv;subst YJ cT hvq;obtain⟨Q,hQ⟩:∃ Q,l.length - r2.length=Q:=⟨_,rfl⟩;have hd:=HDD.out;rw[hQ] at hd ⊢;have XC:=zaa ((zad Gv.out gl).alloc (zad Gv.out gl).size (.cells #[.int .u8 (vk:Int),.int .u64 (vn:Int),.string vt,.slice vA vl vc] 43));have Yu:=zaa ((j8.out.call gl).call ((Below.refl _ _).alloc zab (.cells #[.int .u8 (vk:Int),.int .u64 (vn:Int),.string vt,.slice vA vl vc] 43)));have HV4:=zaa (Box.new w4 (.int .u8 (vk:Int)) (.int .u64 (vn:Int)) (.string vt) (.slice vA vl vc));have jn:=Gv.out.size;have hx3l:=j8.out.lt;have Vs:=gl.size;have yG:Nw w3.heap.size (w4.alloc (.cells #[.int .u8 (vk:Int),.int .u64 (vn:Int),.string vt,.slice vA vl vc] 43)) vks vA vl vc:=j7.call ((za _ _));have xE:=zaa yG;have cW:=zaa (valueRights.zd4 vk vn vt vks vA vl vc _ de kC yG.kd);obtain⟨b,hb⟩:∃ b,okB (.mk vk vn vt vks)=b:=⟨_,rfl⟩;rw[hb] at hd cW;clear j7 gl yG hb d0 d1 d2 d3 df;obtain⟨d0,d1,d2,d3,df⟩:=Yu.out.all;obtain⟨v0,v1,v2,v3,vf⟩:=HV4.out.all;cases b with
    | false=>
     have HD:=zaa (show decX l=(zeroV,0,6) from hd);clear hd;go_wp2_with fail
     (with_reducible refine cW.out.mono ?_)
     rintro e w5 ⟨rfl,gp⟩;have VM:=zaa (zad XC.out gp);clear d0 d1 d2 d3 df v0 v1 v2 v3 vf;obtain⟨d0,d1,d2,d3,df⟩:=(Yu.out.call gp).all;clear gp;go_wp2;refine bodyPost_ret (v:=.tuple #[.agg #[.int .u8 0,.int .u64 0,.string ⟨#[]⟩,.slice none 0 0],.int .i64 0,.int .i64 6]) (by simp[results,results17,go_sem,d0,d1,d2,d3]) rfl ?_;rw[HD.out];exact⟨0,0,⟨#[]⟩,[],none,0,0,rfl,rfl,by omega,by omega,Val.Kids.none_ _ _ _ _ _,zae VM.out zab _ _ _ _⟩
    | true=>
     have HD:=zaa (show decX l=(.mk vk vn vt vks,Q,0) from hd);clear hd;go_wp2_with fail
     (with_reducible refine cW.out.mono ?_)
     rintro e w5 ⟨rfl,gp⟩;have VM:=zaa (zad XC.out gp);have BY:=zaa (xE.out.call gp);clear d0 d1 d2 d3 df v0 v1 v2 v3 vf;obtain⟨d0,d1,d2,d3,df⟩:=(Yu.out.call gp).all;obtain⟨v0,v1,v2,v3,vf⟩:=(HV4.out.call gp).all;clear gp;go_wp2;refine bodyPost_ret (v:=.tuple #[.agg #[.int .u8 (vk:Int),.int .u64 (vn:Int),.string vt,.slice vA vl vc],.int .i64 (Q:Int),.int .i64 0]) (by simp[results,results17,go_sem,d0,d1,d2,d3]) rfl ?_;rw[HD.out];exact⟨vk,vn,vt,vks,vA,vl,vc,rfl,rfl,Kb,kC,(BY.out.far4 (g:=w.heap.size) (by omega) _ _ _ _).less (by omega),zae VM.out zab _ _ _ _⟩
end Dec
end Go.Proofs.YtbbbanfggcediaaGreatDoor
