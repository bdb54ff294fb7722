/- Contracts, each with its premises. -/
import Derived.Test.YtbbbanfggcediaaGreatDoorY27
import Derived.Test.YtbbbanfggcediaaGreatDoorY26
set_option maxRecDepth 100000
set_option maxHeartbeats 8000000
namespace Go.Proofs.YtbbbanfggcediaaGreatDoor
open _root_.Go.Proofs.Tryz
open List renaming length_drop→yc5,length_take→yc6,drop_drop→yc7
namespace Dec
open Go.RowKit Utf Val V
theorem zq4:((List.range 256).all fun c=>decide (kof c=0)||decide (c∈Enc.ze (kof c)))=true:=by decide +kernel
theorem zoS:((List.range 25).all fun k=>(Enc.ze k).all fun c=>decide (kof c=k))=true:=by decide +kernel
theorem zoT:((List.range 25).all fun k=>decide ((Enc.ze k).length≤3))=true:=by decide +kernel
theorem ziW {c k:Nat}(hc:c < 256)(hk:1≤k∧k≤24):c∈Enc.ze k↔kof c=k:=by
 constructor
 ·intro h;exact of_decide_eq_true (List.all_eq_true.1 (List.all_eq_true.1 zoS k (List.mem_range.2 (by omega))) c h)
 ·intro h;have h1:=List.all_eq_true.1 zq4 c (List.mem_range.2 hc);simp only[Bool.or_eq_true,decide_eq_true_eq] at h1;rcases h1 with h1 | h1
  ·omega
  ·rw[h] at h1;exact h1
theorem zq5 {k:Nat}(hk:k≤24):(Enc.ze k).length≤3:=of_decide_eq_true (List.all_eq_true.1 zoT k (List.mem_range.2 (by omega)))
theorem zat (c:Nat)(hc:c < 256)(w:World):Calls prog 68 #[.int .u8 (c:Int)] w (fun e w'=>e=.returned (.int .u8 (kof c:Int))∧Below w.heap.size w w'):=by
 have hle:=zgL c;have HC:=zaa hc;go_enter func68,ntmps68;go_wp2_with fail;go_loopw [3] (fun s wr=>∃ k:Nat,1≤k∧k≤25∧s=.int .u8 (k:Int)∧(∀ j,1≤j→j < k→kof c≠j)∧Below w.heap.size w wr) (fun s _=>25 - (intOf s).toNat)
 case atStart=>exact⟨1,by omega,by omega,rfl,fun j h1 h2=>by omega,Below.refl _ _⟩
 case round=>
  obtain⟨k,gF,gR,rfl,GN,Hg⟩:=hrel;have gD:=zaa Hg;have Gd:=zaa GN;clear Hg GN;by_cases Hi:k≤24
  ·go_wp2_with fail
   (with_reducible refine(Enc.zoL k ⟨gF,Hi⟩ wr).mono ?_)
   rintro e w1 ⟨A,n,m,rfl,hO,Ha⟩;have hr:=hO.rd;have Vy:n≤3:=by have:=hr.len;have:=zq5 Hi;omega
   have Hl:=zaa (zad gD.out Ha);have HCK:=zaa (@ziW c k HC.out ⟨gF,Hi⟩);clear Ha hO;go_wp2_with fail;go_loop [5] (fun i=>∃ j:Nat,j≤n∧i=.int .i64 (j:Int)∧(∀ q,q < j→(Enc.ze k)[q]? ≠ some c)) (fun i=>n - (intOf i).toNat)
   case atStart=>exact⟨0,Nat.zero_le _,rfl,fun q hq=>by omega⟩
   case round=>
    obtain⟨j,hj,rfl,hq⟩:=hrel;have HQ:=zaa hq;clear hq;by_cases uD:j < n
    ·obtain⟨b,o,y,rfl,hb,hy,hyy,Kx⟩:=hr.at_ uD;have HY:=zaa hy;clear hy;by_cases he:y=c
     ·have HF:Hid (kof c=k):=zaa (HCK.out.1 (he▸List.mem_of_getElem? HY.out));have hd:((y:Int)==(c:Int))=true:=by rw[he];simp
      clear he;go_wp2;go_ret;rw[HF.out];exact⟨rfl,Hl.out⟩
     ·have hd:((y:Int)==(c:Int))=false:=by rw[zac];omega
      have HE:=zaa he;clear he;go_wp2;exact⟨⟨j+1,by omega,by go_num,fun q JV=>by
       by_cases ue:q=j
       ·rw[ue,HY.out];exact fun h=>HE.out (by injection h)
       ·exact HQ.out q (by omega)⟩,by simp[intOf];omega⟩
    ·have HNK:Hid (kof c≠k):=zaa (fun h=>by
      have hm:=HCK.out.2 h;obtain⟨q,hq,Yw⟩:=List.getElem_of_mem hm;have jy:=hr.len;exact HQ.out q (by omega) (List.getElem?_eq_some_iff.2 ⟨hq,Yw⟩))
     have hk:k < 256:=by omega
     clear hr;go_wp2_with fail;go_roundw
     case rel=>exact⟨k+1,by omega,by omega,by go_num,fun q h1 h2=>by
      by_cases hqk:q=k
      ·rw[hqk];exact HNK.out
      ·exact Gd.out q h1 (by omega),Hl.out⟩
     case measure=>simp[intOf];omega
  ·have HF:Hid (kof c=0):=zaa (by
    refine Nat.eq_zero_of_not_pos fun h=>?_;exact Gd.out (kof c) h (by omega) rfl)
   go_wp2;go_ret;rw[HF.out];exact⟨rfl,gD.out⟩
def zbs (c:Nat)(l:Lz)(w:World)(e:Ending)(w':World):Prop:=
 (match zaC c l with
  | none=>e=.returned (.tuple #[.int .i64 0,.int .i64 7])
  | some (_,r)=>e=.returned (.tuple #[.int .i64 ((l.length - r.length:Nat):Int),.int .i64 0]))∧Below w.heap.size w w'
theorem zmc {c:Nat}{l:Lz}(h:sw c=0)(hl:lg c≤l.length):zaC c l=some (l.take (lg c),l.drop (lg c)):=by unfold zaC;rw[if_pos h,if_pos hl]
theorem zh4 {c:Nat}{l:Lz}(h:sw c=0)(hl:l.length < lg c):zaC c l=none:=by unfold zaC;rw[if_pos h,if_neg (by omega)]
theorem zmd {c:Nat}{l:Lz}(h:sw c=0)(hl:lg c≤l.length){w w':World}(hb:Below w.heap.size w w'):zbs c l w (.returned (.tuple #[.int .i64 ((lg c:Nat):Int),.int .i64 0])) w':=by
 unfold zbs;rw[zmc h hl];refine⟨?_,hb⟩;simp only[yc5];rw[show l.length - (l.length - lg c)=lg c by omega]
theorem zh5 {c:Nat}{l:Lz}(h:sw c=0)(hl:l.length < lg c){w w':World}(hb:Below w.heap.size w w'):zbs c l w (.returned (.tuple #[.int .i64 0,.int .i64 7])) w':=by
 unfold zbs;rw[zh4 h hl];exact⟨rfl,hb⟩
theorem zgv {c:Nat}{l:Lz}(h:sw c≠0)(hl:l.length < sw c):zaC c l=none:=by unfold zaC;rw[if_neg h,if_neg (by omega)]
theorem zdR {c:Nat}{l:Lz}(h:sw c≠0)(hl:sw c≤l.length)(ht:l.length < sw c+tn (l.take (sw c))):zaC c l=none:=by
 unfold zaC;rw[if_neg h,if_pos hl,if_neg (by simp only[yc5];omega)]
theorem zjv {c:Nat}{l:Lz}(h:sw c≠0)(hl:sw c≤l.length)(ht:sw c+tn (l.take (sw c))≤l.length):zaC c l=some ((l.drop (sw c)).take (tn (l.take (sw c))),(l.drop (sw c)).drop (tn (l.take (sw c)))):=by
 unfold zaC;rw[if_neg h,if_pos hl,if_pos (by simp only[yc5];omega)]
theorem zlm {c:Nat}{l:Lz}(h:sw c≠0)(hl:sw c≤l.length)(ht:sw c+tn (l.take (sw c))≤l.length){w w':World}(hb:Below w.heap.size w w'):zbs c l w (.returned (.tuple #[.int .i64 ((sw c+tn (l.take (sw c)):Nat):Int),.int .i64 0])) w':=by
 unfold zbs;rw[zjv h hl ht];refine⟨?_,hb⟩;simp only[yc5];rw[show l.length - (l.length - sw c - tn (l.take (sw c)))=sw c+tn (l.take (sw c)) by omega]
theorem zjw {c:Nat}{l:Lz}(h:zaC c l=none){w w':World}(hb:Below w.heap.size w w'):zbs c l w (.returned (.tuple #[.int .i64 0,.int .i64 7])) w':=by
 unfold zbs;rw[h];exact⟨rfl,hb⟩
theorem zoU:∀ c < 256,kof c≠0→64≤c:=by decide
theorem zkd:∀ c < 160,64≤c→sw c=0∧lg c=[0,1,2,4,8,16].getD (c / 16 - 4) 0∧c / 16 - 4 < 6:=by decide
theorem zjx:∀ c < 256,160≤c→sw c=(if c / 16 % 2=1 then 4 else 1):=by decide
theorem zjy (c:Nat)(hc:c < 256)(hk:kof c≠0)(B:Nat)(A:Oz)(n m:Nat)(l:Lz)(w:World)(hr:Rd .u8 256 w B A n l)(hm:n≤m)(hB:B≤w.heap.size)(hn:n≤1099511627776) :
  Calls prog 37 #[.int .u8 (c:Int),.slice A n m] w (zbs c l w):=by
 have qK:=zoU c hc hk;have jy:=hr.len;have Hg:Below w.heap.size w (w.alloc (.cells #[.int .i64 0,.int .i64 1,.int .i64 2,.int .i64 4,.int .i64 8,.int .i64 16] 3)):=(za _ _);have HB:=zaa Hg;clear Hg hk;by_cases J6:c < 160
 ·obtain⟨hs,hl,hq⟩:=zkd c J6 qK;obtain⟨q,Yw⟩:∃ q,c / 16 - 4=q:=⟨_,rfl⟩;rw[Yw] at hl hq;have hd:decide ((c:Int) < 160)=true:=decide_eq_true (by omega);have hdiv:(c:Int) / 16=(q:Int)+4:=by omega
  have xQ:(c:Int).tdiv 16=(q:Int)+4:=by rw[Int.tdiv_eq_ediv_of_nonneg (by omega)];exact hdiv
  have hw:IntKind.u8.wrap ((q:Int)+4 - 4)=(q:Int):=by simp[IntKind.wrap,IntKind.signed,IntKind.bits];omega
  obtain⟨L,hL⟩:∃ L,lg c=L:=⟨_,rfl⟩;rw[hL] at hl;have HY:=zaa (@zmd c l hs);have HN:=zaa (@zh5 c l hs);rw[hL] at HY HN;have Kx:(w.alloc (.cells #[.int .i64 0,.int .i64 1,.int .i64 2,.int .i64 4,.int .i64 8,.int .i64 16] 3)).cell? ⟨w.heap.size,q,none⟩=some (.int .i64 (L:Int)):=by
   have h6:q=0∨q=1∨q=2∨q=3∨q=4∨q=5:=by omega
   rw[hl];rcases h6 with rfl | rfl | rfl | rfl | rfl | rfl<;>simp
  have xC:=zaa hl;clear hs hL hl Yw;by_cases hln2:L≤n
  ·have kM:decide ((n:Int) < (L:Int))=false:=by simp;omega
   go_enter func37,ntmps37;go_wp2;go_ret2;exact HY.out (by omega) HB.out
  ·have kM:decide ((n:Int) < (L:Int))=true:=decide_eq_true (by omega);go_enter func37,ntmps37;go_wp2;go_ret2;exact HN.out (by omega) HB.out
 ·have kZ:=zjx c hc (by omega);have hd:decide ((c:Int) < 160)=false:=decide_eq_false (by omega);obtain⟨D,hD⟩:∃ D,c / 16=D:=⟨_,rfl⟩;have hdiv:(c:Int) / 16=(D:Int):=by omega
  have xQ:(c:Int).tdiv 16=(D:Int):=by rw[Int.tdiv_eq_ediv_of_nonneg (by omega)];exact hdiv
  rw[hD] at kZ;have CR:D < 16:=by omega
  by_cases kX:D % 2=1
  case pos=>
   have hs:sw c=4:=by rw[kZ,if_pos kX]
   have Gz:((D:Int).tmod 2==1)=true:=by rw[Int.tmod_eq_emod_of_nonneg (by omega)];simp;omega
   have Gq:((D:Int) % 2==1)=true:=by simp;omega
   have H0:=zaa (@zjw c l);by_cases Qs:n < 4
   ·have kM:decide ((n:Int) < 4)=true:=decide_eq_true (by omega);have HN:=zaa (zgv (c:=c) (l:=l) (by omega) (by omega));clear hs kZ hD kX;go_enter func37,ntmps37;go_wp2;go_ret2;exact H0.out HN.out HB.out
   ·have kM:decide ((n:Int) < 4)=false:=decide_eq_false (by omega);obtain⟨gM,gY⟩:=zr A n m 4 (by omega) hm;have QQ:Rd .u8 256 w B A 4 (l.take 4):=hr.take (by omega);have vF:Rd .u8 256 (w.alloc (.cells #[.int .i64 0,.int .i64 1,.int .i64 2,.int .i64 4,.int .i64 8,.int .i64 16] 3)) B A 4 (l.take 4):=QQ.below (HB.out.mono hB);have hT:=zjJ (l.take 4) fun x hx=>hr.lim x (List.mem_of_mem_take hx);have qj:tn (l.take 4) < 4294967296:=by
     unfold tn;have e:(l.take 4).length=4:=by simp only[yc6];omega
     rw[e] at hT ⊢;rw[if_pos (by omega)];omega
    have Gs:=zaa (zax B A 4 m _ _ vF);have HY:=zaa (@zlm c l (by omega));have HN:=zaa (@zdR c l (by omega));rw[hs] at HY HN;obtain⟨T,QR⟩:∃ T,tn (l.take 4)=T:=⟨_,rfl⟩;rw[QR] at Gs HY HN qj;have uj:IntKind.i64.wrap (T:Int)=(T:Int):=by simp[IntKind.wrap,IntKind.signed,IntKind.bits];omega
    have CT:IntKind.i64.wrap (4+(T:Int))=4+(T:Int):=by simp[IntKind.wrap,IntKind.signed,IntKind.bits];omega
    clear hs kZ hD kX hT QR QQ vF hr;by_cases Gy:4+T≤n
    ·have JF:decide ((n:Int) < 4+(T:Int))=false:=decide_eq_false (by omega);go_enter func37,ntmps37;go_wp2_with (go_at_call 70;(with_reducible refine Gs.out.mono ?_);rintro e w1 ⟨⟨pp,rfl⟩,rfl⟩);go_ret2;exact HY.out (by omega) (by omega) HB.out
    ·have JF:decide ((n:Int) < 4+(T:Int))=true:=decide_eq_true (by omega);go_enter func37,ntmps37;go_wp2_with (go_at_call 70;(with_reducible refine Gs.out.mono ?_);rintro e w1 ⟨⟨pp,rfl⟩,rfl⟩);go_ret2;exact H0.out (HN.out (by omega) (by omega)) HB.out
  case neg=>
   have hs:sw c=1:=by rw[kZ,if_neg kX]
   have Gz:((D:Int).tmod 2==1)=false:=by rw[Int.tmod_eq_emod_of_nonneg (by omega)];simp;omega
   have Gq:((D:Int) % 2==1)=false:=by simp;omega
   have H0:=zaa (@zjw c l);by_cases Qs:n < 1
   ·have kM:decide ((n:Int) < 1)=true:=decide_eq_true (by omega);have HN:=zaa (zgv (c:=c) (l:=l) (by omega) (by omega));clear hs kZ hD kX;go_enter func37,ntmps37;go_wp2;go_ret2;exact H0.out HN.out HB.out
   ·have kM:decide ((n:Int) < 1)=false:=decide_eq_false (by omega);obtain⟨gM,gY⟩:=zr A n m 1 (by omega) hm;have QQ:Rd .u8 256 w B A 1 (l.take 1):=hr.take (by omega);have vF:Rd .u8 256 (w.alloc (.cells #[.int .i64 0,.int .i64 1,.int .i64 2,.int .i64 4,.int .i64 8,.int .i64 16] 3)) B A 1 (l.take 1):=QQ.below (HB.out.mono hB);have hT:=zjJ (l.take 1) fun x hx=>hr.lim x (List.mem_of_mem_take hx);have qj:tn (l.take 1) < 4294967296:=by
     unfold tn;have e:(l.take 1).length=1:=by simp only[yc6];omega
     rw[e] at hT ⊢;rw[if_pos (by omega)];omega
    have Gs:=zaa (zax B A 1 m _ _ vF);have HY:=zaa (@zlm c l (by omega));have HN:=zaa (@zdR c l (by omega));rw[hs] at HY HN;obtain⟨T,QR⟩:∃ T,tn (l.take 1)=T:=⟨_,rfl⟩;rw[QR] at Gs HY HN qj;have uj:IntKind.i64.wrap (T:Int)=(T:Int):=by simp[IntKind.wrap,IntKind.signed,IntKind.bits];omega
    have CT:IntKind.i64.wrap (1+(T:Int))=1+(T:Int):=by simp[IntKind.wrap,IntKind.signed,IntKind.bits];omega
    clear hs kZ hD kX hT QR QQ vF hr;by_cases Gy:1+T≤n
    ·have JF:decide ((n:Int) < 1+(T:Int))=false:=decide_eq_false (by omega);go_enter func37,ntmps37;go_wp2_with (go_at_call 70;(with_reducible refine Gs.out.mono ?_);rintro e w1 ⟨⟨pp,rfl⟩,rfl⟩);go_ret2;exact HY.out (by omega) (by omega) HB.out
    ·have JF:decide ((n:Int) < 1+(T:Int))=true:=decide_eq_true (by omega);go_enter func37,ntmps37;go_wp2_with (go_at_call 70;(with_reducible refine Gs.out.mono ?_);rintro e w1 ⟨⟨pp,rfl⟩,rfl⟩);go_ret2;exact H0.out (HN.out (by omega) (by omega)) HB.out
def zbw (B c:Nat)(d:Lz)(w:World)(e:Ending)(w':World):Prop:=
 Below w.heap.size w w'∧(if d.length < sw c∨1024 < tn (d.take (sw c)) then e=.returned (.tuple #[.int .i64 0,.slice none 0 0,.bool false])
  else ∃ A n m,e=.returned (.tuple #[.int .i64 (tn (d.take (sw c)):Int),.slice A n m,.bool true])∧Rd .u8 256 w B A n (d.drop (sw c))∧n≤m)
theorem zln {B c:Nat}{d:Lz}{w:World}(h:d.length < sw c∨1024 < tn (d.take (sw c))){w':World}(hb:Below w.heap.size w w'):zbw B c d w (.returned (.tuple #[.int .i64 0,.slice none 0 0,.bool false])) w':=by
 unfold zbw;rw[if_pos h];exact⟨hb,rfl⟩
theorem zjz {B c:Nat}{d:Lz}{w:World}(h:¬ (d.length < sw c∨1024 < tn (d.take (sw c)))){A:Oz}{n m:Nat}(hr:Rd .u8 256 w B A n (d.drop (sw c)))(hm:n≤m){w':World}(hb:Below w.heap.size w w'):zbw B c d w (.returned (.tuple #[.int .i64 (tn (d.take (sw c)):Int),.slice A n m,.bool true])) w':=by
 unfold zbw;rw[if_neg h];exact⟨hb,A,n,m,rfl,hr,hm⟩
theorem zh (c:Nat)(hc:c < 256)(J6:160≤c)(B:Nat)(A:Oz)(n m:Nat)(l:Lz)(w:World)(hr:Rd .u8 256 w B A n l)(hm:n≤m)(hn:n≤1099511627776)(hl:sw c≤n) :
  Calls prog 142 #[.int .u8 (c:Int),.slice A n m] w (zbw B c (l.drop (sw c)) w):=by
 have jy:=hr.len;have kZ:=zjx c hc J6;obtain⟨D,hD⟩:∃ D,c / 16=D:=⟨_,rfl⟩;have hdiv:(c:Int) / 16=(D:Int):=by omega
 have xQ:(c:Int).tdiv 16=(D:Int):=by rw[Int.tdiv_eq_ediv_of_nonneg (by omega)];exact hdiv
 rw[hD] at kZ;have CR:D < 16:=by omega
 by_cases kX:D % 2=1
 case pos=>
  rw[show sw c=4 by rw[kZ,if_pos kX]];have hs:sw c=4:=by rw[kZ,if_pos kX]
  have Gz:((D:Int).tmod 2==1)=true:=by rw[Int.tmod_eq_emod_of_nonneg (by omega)];simp;omega
  have Gq:((D:Int) % 2==1)=true:=by simp;omega
  have H0:=zaa (@zln B c (l.drop 4) w);have H1:=zaa (@zjz B c (l.drop 4) w);rw[hs] at H0 H1;by_cases Qs:n < 8
  ·have kM:decide ((n:Int) < 8)=true:=decide_eq_true (by omega);have HN:Hid ((l.drop 4).length < 4):=zaa (by simp only[yc5];omega);clear hs kZ hD kX;go_enter func142,ntmps142;go_wp2;refine bodyPost_ret (v:=.tuple #[.int .i64 0,.slice none 0 0,.bool false]) (by simp[results,results142,go_sem]) rfl ?_;exact H0.out (.inl HN.out) (Below.refl _ _)
  ·have kM:decide ((n:Int) < 8)=false:=decide_eq_false (by omega);obtain⟨A1,c1,j3,Yv,gM,gY,vG⟩:=zhf A n m 4 4 (by omega) hm;have QQ:=vG w B l hr;have vH:¬ (l.drop 4).length < 4:=by simp only[yc5];omega
   have hT:=zjJ ((l.drop 4).take 4) fun x hx=>hr.lim x (List.mem_of_mem_drop (List.mem_of_mem_take hx));have qj:tn ((l.drop 4).take 4) < 4294967296:=by
    unfold tn;have e:((l.drop 4).take 4).length=4:=by simp only[yc6,yc5];omega
    rw[e] at hT ⊢;rw[if_pos (by omega)];omega
   have Gs:=zaa (zax B A1 4 c1 _ _ QQ);obtain⟨T,QR⟩:∃ T,tn ((l.drop 4).take 4)=T:=⟨_,rfl⟩;rw[QR] at Gs H0 H1 qj;have uj:IntKind.i64.wrap (T:Int)=(T:Int):=by simp[IntKind.wrap,IntKind.signed,IntKind.bits];omega
   obtain⟨A2,c2,GD,k7,gZ,Gk,gh⟩:=zb A n m 8 (by omega) hm;have gZ:=fun W=>gZ W 8 rfl;have Gk:=fun W=>Gk W 8 rfl;have XH:=gh w B l hr;have gI:l.drop 8=(l.drop 4).drop 4:=by rw[yc7]
   rw[gI] at XH;have J4:=zaa XH;have QS:=zaa GD;have Js:∀ W:World,(Instr.slice 22 (.slice A n m) (some (.int .i64 4)) (some (.int .i64 8)) none).run prog W=.ok (.slice A1 4 c1) W:=gM;have XN:∀ W:World,(Instr.sliceAt 22 (.slice A n m) (some (.int .i64 4)) (some (.int .i64 8)) none).run prog W=.ok (.slice A1 4 c1) W:=gY;have Xg:=zaa vH;clear hs kZ hD kX hT QR QQ hr vG gh gM gY XH gI vH j3 Yv GD k7;by_cases Gy:1024 < T
   ·have JF:decide ((1024:Int) < (T:Int))=true:=decide_eq_true (by omega);go_enter func142,ntmps142;go_wp2_with (go_at_call 70;(with_reducible refine Gs.out.mono ?_);rintro e w1 ⟨⟨pp,rfl⟩,rfl⟩);refine bodyPost_ret (v:=.tuple #[.int .i64 0,.slice none 0 0,.bool false]) (by simp[results,results142,go_sem]) rfl ?_;exact H0.out (.inr Gy) (Below.refl _ _)
   ·have JF:decide ((1024:Int) < (T:Int))=false:=decide_eq_false (by omega);go_enter func142,ntmps142;go_wp2_with (go_at_call 70;(with_reducible refine Gs.out.mono ?_);rintro e w1 ⟨⟨pp,rfl⟩,rfl⟩);go_region
    all_goals
     go_wp2_with fail;refine bodyPost_ret (v:=.tuple #[.int .i64 (T:Int),.slice A2 (n - 8) c2,.bool true]) (by simp[results,results142,go_sem]) rfl ?_;exact H1.out (by rintro(h | h);(· exact Xg.out h);(· exact Gy h)) J4.out QS.out (Below.refl _ _).drew
 case neg=>
  rw[show sw c=1 by rw[kZ,if_neg kX]];have hs:sw c=1:=by rw[kZ,if_neg kX]
  have Gz:((D:Int).tmod 2==1)=false:=by rw[Int.tmod_eq_emod_of_nonneg (by omega)];simp;omega
  have Gq:((D:Int) % 2==1)=false:=by simp;omega
  have H0:=zaa (@zln B c (l.drop 1) w);have H1:=zaa (@zjz B c (l.drop 1) w);rw[hs] at H0 H1;by_cases Qs:n < 2
  ·have kM:decide ((n:Int) < 2)=true:=decide_eq_true (by omega);have HN:Hid ((l.drop 1).length < 1):=zaa (by simp only[yc5];omega);clear hs kZ hD kX;go_enter func142,ntmps142;go_wp2;refine bodyPost_ret (v:=.tuple #[.int .i64 0,.slice none 0 0,.bool false]) (by simp[results,results142,go_sem]) rfl ?_;exact H0.out (.inl HN.out) (Below.refl _ _)
  ·have kM:decide ((n:Int) < 2)=false:=decide_eq_false (by omega);obtain⟨A1,c1,j3,Yv,gM,gY,vG⟩:=zhf A n m 1 1 (by omega) hm;have QQ:=vG w B l hr;have vH:¬ (l.drop 1).length < 1:=by simp only[yc5];omega
   have hT:=zjJ ((l.drop 1).take 1) fun x hx=>hr.lim x (List.mem_of_mem_drop (List.mem_of_mem_take hx));have qj:tn ((l.drop 1).take 1) < 4294967296:=by
    unfold tn;have e:((l.drop 1).take 1).length=1:=by simp only[yc6,yc5];omega
    rw[e] at hT ⊢;rw[if_pos (by omega)];omega
   have Gs:=zaa (zax B A1 1 c1 _ _ QQ);obtain⟨T,QR⟩:∃ T,tn ((l.drop 1).take 1)=T:=⟨_,rfl⟩;rw[QR] at Gs H0 H1 qj;have uj:IntKind.i64.wrap (T:Int)=(T:Int):=by simp[IntKind.wrap,IntKind.signed,IntKind.bits];omega
   obtain⟨A2,c2,GD,k7,gZ,Gk,gh⟩:=zb A n m 2 (by omega) hm;have gZ:=fun W=>gZ W 2 rfl;have Gk:=fun W=>Gk W 2 rfl;have XH:=gh w B l hr;have gI:l.drop 2=(l.drop 1).drop 1:=by rw[yc7]
   rw[gI] at XH;have J4:=zaa XH;have QS:=zaa GD;have Js:∀ W:World,(Instr.slice 22 (.slice A n m) (some (.int .i64 1)) (some (.int .i64 2)) none).run prog W=.ok (.slice A1 1 c1) W:=gM;have XN:∀ W:World,(Instr.sliceAt 22 (.slice A n m) (some (.int .i64 1)) (some (.int .i64 2)) none).run prog W=.ok (.slice A1 1 c1) W:=gY;have Xg:=zaa vH;clear hs kZ hD kX hT QR QQ hr vG gh gM gY XH gI vH j3 Yv GD k7;by_cases Gy:1024 < T
   ·have JF:decide ((1024:Int) < (T:Int))=true:=decide_eq_true (by omega);go_enter func142,ntmps142;go_wp2_with (go_at_call 70;(with_reducible refine Gs.out.mono ?_);rintro e w1 ⟨⟨pp,rfl⟩,rfl⟩);refine bodyPost_ret (v:=.tuple #[.int .i64 0,.slice none 0 0,.bool false]) (by simp[results,results142,go_sem]) rfl ?_;exact H0.out (.inr Gy) (Below.refl _ _)
   ·have JF:decide ((1024:Int) < (T:Int))=false:=decide_eq_false (by omega);go_enter func142,ntmps142;go_wp2_with (go_at_call 70;(with_reducible refine Gs.out.mono ?_);rintro e w1 ⟨⟨pp,rfl⟩,rfl⟩);go_region
    all_goals
     go_wp2_with fail;refine bodyPost_ret (v:=.tuple #[.int .i64 (T:Int),.slice A2 (n - 2) c2,.bool true]) (by simp[results,results142,go_sem]) rfl ?_;exact H1.out (by rintro(h | h);(· exact Xg.out h);(· exact Gy h)) J4.out QS.out (Below.refl _ _).drew
end Dec
end Go.Proofs.YtbbbanfggcediaaGreatDoor
