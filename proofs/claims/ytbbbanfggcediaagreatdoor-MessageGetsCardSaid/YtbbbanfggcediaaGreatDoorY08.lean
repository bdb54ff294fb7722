/- Contracts, each with its premises. -/
import Derived.Test.YtbbbanfggcediaaGreatDoorY07
set_option maxRecDepth 100000
set_option maxHeartbeats 8000000
namespace Go.Proofs.YtbbbanfggcediaaGreatDoor
open _root_.Go.Proofs.Tryz
open Prod renaming mk.injEq→yaN
open List renaming length_cons→yaM,length_take→yaP,take_append_drop→yaQ
open Bool renaming and_eq_true→yaL
open Go.RowKit.Below renaming heap_setCell→yaK,heap_alloc→yaO
open Nat renaming lt_of_lt_of_le→yaJ
section
open Go Go.RowKit
theorem T1K{P:Program}{md:Region.Mode}{ops:Array Oper}{Q:Exit→Act→World→Prop}{S:World→Prop}(i:Nat)(oi:Oper)(v:Value){fuel:Nat}{listed:Array Bool}{a:Act}{w:World}(hi:ops[i]?=some oi)(hb:(Region.noSelect ops&&(Region.free md ops listed i&&((Region.ready md ops listed).contains i&&Region.wanted oi (yielded ops a.tmps))))=true)(hQ:∀ c a w,Q (.panic c) (a.put oi.dst v) w→Q (.panic c) a w)(hy:∀ w,S w→(execOp a.eval oi).run P w=.ok (.value v) w)(hS:S w)(h:wpAnyH P md ops Q S fuel (listed.setIfInBounds i true) (a.put oi.dst v) w):wpAnyH P md ops Q S (fuel+1) listed a w:=by
 simp only[yaL] at hb
 exact wpAnyH_take hi hb.1 hb.2.1 hb.2.2.1 hQ (Or.inl ⟨hb.2.2.2,hy⟩) hS h
theorem S1K{P:Program}{md:Region.Mode}{ops:Array Oper}{Q:Exit→Act→World→Prop}{S:World→Prop}(i:Nat)(oi:Oper){fuel:Nat}{listed:Array Bool}{a:Act}{w:World}(hi:ops[i]?=some oi)(hb:(Region.noSelect ops&&(Region.free md ops listed i&&((Region.ready md ops listed).contains i&&!Region.wanted oi (yielded ops a.tmps))))=true)(hQ:∀ c a w,Q (.panic c) (a.put oi.dst undef) w→Q (.panic c) a w)(hS:S w)(h:wpAnyH P md ops Q S fuel (listed.setIfInBounds i true) (a.put oi.dst undef) w):wpAnyH P md ops Q S (fuel+1) listed a w:=by
 simp only[yaL,Bool.not_eq_true'] at hb
 exact wpAnyH_take hi hb.1 hb.2.1 hb.2.2.1 hQ (Or.inr ⟨hb.2.2.2,rfl⟩) hS h
end
namespace Dec
open Go.RowKit Utf Val V
section
variable {w:World} {rb ib B n c sh it:Nat} {A:Oz} {L:Lz}
def zu3 (rb ib B sh it x:Nat)(L':Lz)(w:World)(e:Ending)(w':World):Prop:=
 ∃ A2 n2 c2,e=.returned (.int .u64 (x:Int))∧Rdr w' rb ib B A2 n2 c2 L' sh it∧Up rb ib w w'
theorem zcI (h:Rdr w rb ib B A n c L sh it)(m:Nat)(hm:m≤L.length) :
  Calls prog 111 #[.pointer (some ⟨rb,0,none⟩),.int .u64 (m:Int)] w (zu3 rb ib B sh it (tn (L.take m)) (L.drop m) w):=by
 go_enter func111,ntmps111;go_wp2_with (first
  | (go_at_call 106;refine(zhi h m hm).mono ?_;rintro e w1 ⟨A1,m1,c1,A2,n2,c2,rfl,Gp,Gc,Ka,gL⟩)
  | (go_at_call 136;refine(zaP B A1 m1 c1 _ _ Gc).mono ?_;rintro e w' ⟨⟨p,rfl⟩,rfl⟩))
 go_ret;exact⟨A2,n2,c2,rfl,Ka,gL⟩
theorem zih (h:Rdr w rb ib B A n c L sh it)(m:Nat)(hm:L.length < m) :
  Calls prog 111 #[.pointer (some ⟨rb,0,none⟩),.int .u64 (m:Int)] w (Fails sh rb ib w):=by
 go_enter func111,ntmps111;go_wp2_with ((go_at_call 106;refine(zhj h m hm).mono ?_;rintro e w1 ⟨rfl,gL⟩));exact⟨rfl,rfl,gL⟩
theorem zfT (h:Rdr w rb ib B A n c L sh it)(k:Nat){d r:Lz}(hd:zaC k L=some (d,r)) :
  Calls prog 64 #[.pointer (some ⟨rb,0,none⟩),.int .u8 (k:Int)] w (Took rb ib B sh it d r w):=by
 unfold zaC at hd;by_cases hs:sw k=0
 ·rw[if_pos hs] at hd;by_cases hl:lg k≤L.length
  ·rw[if_pos hl] at hd;injection hd with hd
   injection hd with h1 h2
   subst h1;subst h2;have HS:=zaa hs;clear hs;go_enter func64,ntmps64;go_wp2_with (first
    | (go_at_call 110;refine(zbS k w).mono ?_;rintro e w' ⟨rfl,rfl⟩;rw[HS.out])
    | (go_at_call 112;refine(zdC k _).mono ?_;rintro e w' ⟨rfl,rfl⟩)
    | (go_at_call 106;refine(zhi h (lg k) hl).mono ?_;rintro e w1 ⟨A1,m1,c1,A2,n2,c2,rfl,Gp,Gc,Ka,gL⟩))
   go_ret;exact⟨A1,m1,c1,A2,n2,c2,rfl,Gp,Gc,Ka,gL⟩
  ·rw[if_neg hl] at hd;cases hd
 ·rw[if_neg hs] at hd;by_cases hl:sw k≤L.length
  ·rw[if_pos hl] at hd;by_cases ht:tn (L.take (sw k))≤(L.drop (sw k)).length
   ·rw[if_pos ht] at hd;injection hd with hd
    injection hd with h1 h2
    subst h1;subst h2;have hp:(0:Int) < (sw k:Int):=by omega
    clear hs;go_enter func64,ntmps64;go_wp2_with (first
     | (go_at_call 110;refine(zbS k w).mono ?_;rintro e w' ⟨rfl,rfl⟩)
     | (go_at_call 111;refine(zcI h (sw k) hl).mono ?_;rintro e w1 ⟨A1,n1,c1,rfl,Ka,gL⟩)
     | (go_at_call 106;refine(zhi Ka _ ht).mono ?_;rintro e w2 ⟨A2,m2,c2,A3,n3,c3,rfl,GP,qG,jw,kg⟩))
    go_ret;exact⟨A2,m2,c2,A3,n3,c3,rfl,GP,qG,jw,gL.trans kg⟩
   ·rw[if_neg ht] at hd;cases hd
  ·rw[if_neg hl] at hd;cases hd
theorem zjK (h:Rdr w rb ib B A n c L sh it)(k:Nat)(hd:zaC k L=none) :
  Calls prog 64 #[.pointer (some ⟨rb,0,none⟩),.int .u8 (k:Int)] w (Fails sh rb ib w):=by
 unfold zaC at hd;by_cases hs:sw k=0
 ·rw[if_pos hs] at hd;by_cases hl:lg k≤L.length
  ·rw[if_pos hl] at hd;cases hd
  ·have HS:=zaa hs;clear hs hd;go_enter func64,ntmps64;go_wp2_with (first
    | (go_at_call 110;refine(zbS k w).mono ?_;rintro e w' ⟨rfl,rfl⟩;rw[HS.out])
    | (go_at_call 112;refine(zdC k _).mono ?_;rintro e w' ⟨rfl,rfl⟩)
    | (go_at_call 106;refine(zhj h (lg k) (by omega)).mono ?_;rintro e w1 ⟨rfl,gL⟩))
   exact⟨rfl,rfl,gL⟩
 ·rw[if_neg hs] at hd;have hp:(0:Int) < (sw k:Int):=by omega
  clear hs;by_cases hl:sw k≤L.length
  ·rw[if_pos hl] at hd;by_cases ht:tn (L.take (sw k))≤(L.drop (sw k)).length
   ·rw[if_pos ht] at hd;cases hd
   ·clear hd;go_enter func64,ntmps64;go_wp2_with (first
     | (go_at_call 110;refine(zbS k w).mono ?_;rintro e w' ⟨rfl,rfl⟩)
     | (go_at_call 111;refine(zcI h (sw k) hl).mono ?_;rintro e w1 ⟨A1,n1,c1,rfl,Ka,gL⟩)
     | (go_at_call 106;refine(zhj Ka _ (by omega)).mono ?_;rintro e w2 ⟨rfl,kg⟩))
    exact⟨rfl,rfl,gL.trans kg⟩
  ·clear hd;go_enter func64,ntmps64;go_wp2_with (first
    | (go_at_call 110;refine(zbS k w).mono ?_;rintro e w' ⟨rfl,rfl⟩)
    | (go_at_call 111;refine(zih h (sw k) (by omega)).mono ?_;rintro e w1 ⟨rfl,gL⟩))
   exact⟨rfl,rfl,gL⟩
def Took1 (rb ib B sh it x:Nat)(L':Lz)(w:World)(e:Ending)(w':World):Prop:=
 ∃ b o c1 A2 n2 c2,e=.returned (.slice (some ⟨b,o,none⟩) 1 c1)∧w'.cell? ⟨b,o,none⟩=some (.int .u8 (x:Int))∧x < 256∧1≤c1∧Rdr w' rb ib B A2 n2 c2 L' sh it∧Up rb ib w w'
theorem zcC {x:Nat}{l:Lz}(h:Rdr w rb ib B A n c (x::l) sh it) :
  Calls prog 106 #[.pointer (some ⟨rb,0,none⟩),.int .u64 1] w (Took1 rb ib B sh it x l w):=by
 refine(zhi h 1 (by simp)).mono ?_;rintro e w1 ⟨A1,m1,c1,A2,n2,c2,rfl,Gp,Gc,Ka,gL⟩;have h1:m1=1:=by rw[←Gc.len];rfl
 subst h1;obtain⟨b,o,c',rfl,hb,hx,xd,hc⟩:=Gc.at_ (k:=0) (by omega);simp only[List.take_succ_cons,List.take_zero,List.getElem?_cons_zero,Option.some.injEq] at hx;subst hx;exact⟨b,o,c1,A2,n2,c2,rfl,hc,xd,Gp,Ka,gL⟩
theorem zkp (h:Rdr w rb ib B A n c [] sh it):Calls prog 106 #[.pointer (some ⟨rb,0,none⟩),.int .u64 1] w (Fails sh rb ib w):=zhj h 1 (by simp)
def zu4 (rb ib B sh it:Nat)(v:V)(L':Lz)(w:World)(e:Ending)(w':World):Prop:=
 ∃ A2 n2 c2,e=.returned (.agg #[.int .u8 (v.kind:Int),.int .u64 (v.num:Int),.string v.text,.slice none 0 0])∧Rdr w' rb ib B A2 n2 c2 L' sh it∧Up rb ib w w'
theorem zcV {a b g:Nat}{w w1:World}(h:Up a b w w1)(hg:w.heap.size≤g)(x y z u:Value):Up a b w ((((w1.setCell ⟨g,0,none⟩ x).setCell ⟨g,1,none⟩ y).setCell ⟨g,2,none⟩ z).setCell ⟨g,3,none⟩ u):=
 have k:∀ (v:World) (j:Nat) (q:Value),Up a b w v→Up a b w (v.setCell ⟨g,j,none⟩ q):=fun v j q hv=>
  ⟨hv.os,hv.tape,hv.output,by simpa using hv.size,fun i hi ha hb=>(yaK v ⟨g,j,none⟩ q i (by simp;omega)).trans (hv.block i hi ha hb)⟩
 k _ _ _ (k _ _ _ (k _ _ _ (k _ _ _ h)))
theorem Rdr.far {g j:Nat}(h:Rdr w rb ib B A n c L sh it)(hB:B≤g)(h1:g≠rb)(h2:g≠ib)(u:Value):Rdr (w.setCell ⟨g,j,none⟩ u) rb ib B A n c L sh it:=
 ⟨by rw[World.cell?_setCell_other _ _ _ _ (fun e=>by injection e with e1;exact h1 e1)];exact h.left,by rw[World.cell?_setCell_other _ _ _ _ (fun e=>by injection e with e1;exact h1 e1)];exact h.short,by rw[World.cell?_setCell_other _ _ _ _ (fun e=>by injection e with e1;exact h1 e1)];exact h.ptr,
  by rw[World.cell?_setCell_other _ _ _ _ (fun e=>by injection e with e1;exact h2 e1)];exact h.item,fun j=>(World.frozen?_setCell _ _ _ _).trans (h.fr j),fun j=>(World.frozen?_setCell _ _ _ _).trans (h.fi j),
  h.rd.keep fun p hp=>by rw[World.cell?_setCell_other _ _ _ _ (fun e=>by rw[←e] at hp;simp at hp;omega)],h.cap,h.lim,h.hr,h.hi,h.ne,by simpa using h.lr,by simpa using h.li⟩
theorem Rdr.far4 {g:Nat}(h:Rdr w rb ib B A n c L sh it)(hB:B≤g)(h1:g≠rb)(h2:g≠ib)(x y z u:Value):Rdr ((((w.setCell ⟨g,0,none⟩ x).setCell ⟨g,1,none⟩ y).setCell ⟨g,2,none⟩ z).setCell ⟨g,3,none⟩ u) rb ib B A n c L sh it:=
 (((h.far hB h1 h2 _).far hB h1 h2 _).far hB h1 h2 _).far hB h1 h2 _
theorem Box.up {a b g:Nat}{w w':World}{x0 x1 x2 x3:Value}(h:Box w g x0 x1 x2 x3)(hu:Up a b w w')(ha:g≠a)(hb:g≠b):Box w' g x0 x1 x2 x3:=(hu.block g h.lt ha hb).trans h
def sel (s:Bool)(sh:Nat):Nat:=if s then sh else 6
theorem zmz (h:Rdr w rb ib B A n c L sh it){v:V}{r:Lz}(hv:za8 L=.ok (v,r)) :
  Calls prog 107 #[.pointer (some ⟨rb,0,none⟩)] w (zu4 rb ib B sh it v r w):=by
 match L,h,hv with
 | [],_,hv=>cases hv
 | k::l,h,hv=>
  simp only[za8] at hv;by_cases hk:kof k=6∨kof k=21
  ·rw[if_pos hk] at hv;cases hd:zaC k l with
   | none=>rw[hd] at hv;cases hv
   | some q=>
    obtain⟨d,q⟩:=q;rw[hd] at hv;simp only[Except.ok.injEq,yaN] at hv;obtain⟨rfl,rfl⟩:=hv;have h0:=h.call ((Below.refl _ _).alloc zab (.cells #[.int .u8 0,.int .u64 0,.string ⟨#[]⟩,.slice none 0 0] 43));have Hg:Up rb ib w (w.alloc (.cells #[.int .u8 0,.int .u64 0,.string ⟨#[]⟩,.slice none 0 0] 43)):=Up.of ((za _ _));have Hz:=Box.new w (.int .u8 0) (.int .u64 0) (.string ⟨#[]⟩) (.slice none 0 0);have v8:=h.lr;have JG:=h.li;have gO:=h.low;rcases hk with hk | hk
    all_goals
     have HK:=zaa hk;clear hk;go_enter func107,ntmps107;go_wp2_with (first
      | (go_at_call 106;refine(zcC h0).mono ?_;rintro e w1 ⟨b1,o1,c1,A2,n2,c2,rfl,gM,hx,Xd,Ka,gL⟩)
      | (go_at_call 108;refine(zaz k _).mono ?_;rintro e w' ⟨rfl,rfl⟩;rw[HK.out])
      | (go_at_call 64;refine(zfT Ka k hd).mono ?_;rintro e w2 ⟨A3,m3,c3,A4,n4,c4,rfl,kS,kT,jx,gW⟩)
      | (go_at_call 133;refine(zig (cc:=c3) kT jx.low).mono ?_;rintro e w3 ⟨rfl,Hj⟩;have kY:=((Box.up (Box.up Hz gL (by omega) (by omega)) gW (by omega) (by omega)).call Hj);obtain⟨y0,y1,y2,y3,yf⟩:=kY.all))
     exact bodyPost_ret (v:=.agg #[.int .u8 ((zag k d).kind:Int),.int .u64 ((zag k d).num:Int),.string (zag k d).text,.slice none 0 0]) (by simp[results,results107,go_sem,y0,y1,y2,y3]) rfl
      ⟨A4,n4,c4,rfl,(jx.call Hj).far4 gO (by omega) (by omega) _ _ _ _,zcV (((Hg.trans gL).trans gW).call Hj) zab _ _ _ _⟩
  ·rw[if_neg hk] at hv;cases hv
theorem zrV (h:Rdr w rb ib B A n c L sh it){s:Bool}(hv:za8 L=.error s) :
  Calls prog 107 #[.pointer (some ⟨rb,0,none⟩)] w (Fails (sel s sh) rb ib w):=by
 have h0:=h.call ((Below.refl _ _).alloc zab (.cells #[.int .u8 0,.int .u64 0,.string ⟨#[]⟩,.slice none 0 0] 43));have Hg:Up rb ib w (w.alloc (.cells #[.int .u8 0,.int .u64 0,.string ⟨#[]⟩,.slice none 0 0] 43)):=Up.of ((za _ _))
 match L,h,hv,h0 with
 | [],_,hv,h0=>
  injection hv with hv
  subst hv;go_enter func107,ntmps107;go_wp2_with ((go_at_call 106;refine(zkp h0).mono ?_;rintro e w1 ⟨rfl,gL⟩));exact⟨rfl,rfl,Hg.trans gL⟩
 | k::l,h,hv,h0=>
  simp only[za8] at hv;by_cases hk:kof k=6∨kof k=21
  ·rw[if_pos hk] at hv;cases hd:zaC k l with
   | some q=>rw[hd] at hv;cases hv
   | none=>
    rw[hd] at hv;injection hv with hv
    subst hv;rcases hk with hk | hk
    all_goals
     have HK:=zaa hk;clear hk;go_enter func107,ntmps107;go_wp2_with (first
      | (go_at_call 106;refine(zcC h0).mono ?_;rintro e w1 ⟨b1,o1,c1,A2,n2,c2,rfl,gM,hx,Xd,Ka,gL⟩)
      | (go_at_call 108;refine(zaz k _).mono ?_;rintro e w' ⟨rfl,rfl⟩;rw[HK.out])
      | (go_at_call 64;refine(zjK Ka k hd).mono ?_;rintro e w2 ⟨rfl,gW⟩))
     exact⟨rfl,rfl,(Hg.trans gL).trans gW⟩
  ·rw[if_neg hk] at hv;injection hv with hv
   subst hv;have d6:((kof k:Int) != 6)=true:=by simp;omega
   have d21:((kof k:Int) != 21)=true:=by simp;omega
   clear hk;go_enter func107,ntmps107;go_wp2_with (first
    | (go_at_call 106;refine(zcC h0).mono ?_;rintro e w1 ⟨b1,o1,c1,A2,n2,c2,rfl,gM,hx,Xd,Ka,gL⟩)
    | (go_at_call 108;refine(zaz k _).mono ?_;rintro e w' ⟨rfl,rfl⟩))
   exact⟨rfl,rfl,Hg.trans gL⟩
end
theorem Rdr.keep {w w':World}{rb ib B n c sh it:Nat}{A:Oz}{L:Lz}(h:Rdr w rb ib B A n c L sh it)(hk:∀ i,(i=rb∨i=ib∨i < B)→w'.heap[i]? = w.heap[i]?)(hs:w.heap.size≤w'.heap.size):Rdr w' rb ib B A n c L sh it:=by
 have c1:∀ j,w'.cell? ⟨rb,j,none⟩=w.cell? ⟨rb,j,none⟩:=fun j=>World.cell?_of_block (w:=w) (hk rb (.inl rfl));have c2:∀ j,w'.cell? ⟨ib,j,none⟩=w.cell? ⟨ib,j,none⟩:=fun j=>World.cell?_of_block (w:=w) (hk ib (.inr (.inl rfl)));exact⟨(c1 0).trans h.left,(c1 1).trans h.short,(c1 2).trans h.ptr,(c2 0).trans h.item,fun j=>(World.frozen?_of_block (w:=w) (hk rb (.inl rfl))).trans (h.fr j),fun j=>(World.frozen?_of_block (w:=w) (hk ib (.inr (.inl rfl)))).trans (h.fi j),
  h.rd.keep fun p hp=>World.cell?_of_block (w:=w) (hk p.block (.inr (.inr hp))),h.cap,h.lim,h.hr,h.hi,h.ne,yaJ h.lr hs,yaJ h.li hs⟩
theorem Up.grown {a b:Nat}{w w1 w':World}{r:Option Nat}(h:Up a b w w1)(hg:w1.grownBy w' r)(hr:∀ k,r=some k→w.heap.size≤k):Up a b w w':=
 ⟨hg.os.trans h.os,hg.tape.trans h.tape,hg.output.trans h.output,Nat.le_trans h.size hg.size,fun i hi ha hb=>(hg.block i (yaJ hi h.size) (fun e=>by have:=hr i e.symm;omega)).trans (h.block i hi ha hb)⟩
theorem Up.far {a b g:Nat}{w w1:World}(h:Up a b w w1)(hg:w.heap.size≤g)(j:Nat)(u:Value):Up a b w (w1.setCell ⟨g,j,none⟩ u):=
 ⟨h.os,h.tape,h.output,by simpa using h.size,fun i hi ha hb=>(yaK w1 ⟨g,j,none⟩ u i (by simp;omega)).trans (h.block i hi ha hb)⟩
theorem zpv {w w':World}{base:Nat}{e:TypeId}{size n:Nat}{v:Value}{xs:List Value}(h:w.ownsRow base e size v n xs)(hk:∀ g,v.ownBlock=some g→w'.heap[g]? = w.heap[g]?):w'.ownsRow base e size v n xs:=by
 refine⟨h.1,?_⟩;rcases h.2 with hn | ⟨g,cap,cur,hv,hg,hb,gP⟩
 ·exact .inl hn
 ·exact .inr ⟨g,cap,cur,hv,hg,(hk g (by rw[hv];rfl)).trans hb,gP⟩
theorem _root_.Go.Proofs.YtbbbanfggcediaaGreatDoor.Val.CS.keep {B:Nat}{wr w':World}{A:Oz}{n c:Nat}{done:List V}{xs:List Value}(h:CS B wr A n c done xs)(hk:∀ i,B≤i→i < wr.heap.size→w'.heap[i]? = wr.heap[i]?)(hs:wr.heap.size≤w'.heap.size):CS B w' A n c done xs:=
 ⟨zpv h.own (fun g hg=>hk g (h.own.lt g hg).1 (h.own.lt g hg).2),(h.cells.keep fun _ hi=>hk _ hi.1 hi.2.1).mono fun _ hi=>⟨hi.1,yaJ hi.2.1 hs,hi.2.2⟩⟩
theorem _root_.Go.Proofs.YtbbbanfggcediaaGreatDoor.Val.CS.up {B a b:Nat}{wr w':World}{A:Oz}{n c:Nat}{done:List V}{xs:List Value}(h:CS B wr A n c done xs)(hu:Up a b wr w')(ha:a < B)(hb:b < B):CS B w' A n c done xs:=
 h.keep (fun i h1 h2=>hu.block i h2 (by omega) (by omega)) hu.size
theorem _root_.Go.Proofs.YtbbbanfggcediaaGreatDoor.Val.CS.far {B g j:Nat}{wr:World}{A:Oz}{n c:Nat}{done:List V}{xs:List Value}(h:CS B wr A n c done xs)(hg:g < B)(u:Value):CS B (wr.setCell ⟨g,j,none⟩ u) A n c done xs:=
 h.keep (fun i h1 _=>yaK wr ⟨g,j,none⟩ u i (by simp;omega)) (by simp)
def HBox (w:World)(g:Nat)(x0 x1:Value):Prop:=w.heap[g]? = some (.cells #[x0,x1] 100 (0,0))
section
variable {w w':World} {g:Nat} {x0 x1:Value}
theorem HBox.lt (h:HBox w g x0 x1):g < w.heap.size:=(Array.getElem?_eq_some_iff.1 h).1
theorem HBox.keep (h:HBox w g x0 x1)(e:w'.heap[g]? = w.heap[g]?):HBox w' g x0 x1:=e.trans h
theorem HBox.all (h:HBox w g x0 x1):w.cell? ⟨g,0,none⟩=some x0∧w.cell? ⟨g,1,none⟩=some x1∧∀ j,w.frozen? ⟨g,j,none⟩=false:=by
 unfold HBox at h;refine⟨?_,?_,fun j=>?_⟩
 ·simp[World.cell?,h]
 ·simp[World.cell?,h]
 ·simp[World.frozen?,h]
theorem HBox.set0 (h:HBox w g x0 x1)(u:Value):HBox (w.setCell ⟨g,0,none⟩ u) g u x1:=by
 unfold HBox at h ⊢;simp[World.setCell,Array.getElem?_modify,h]
theorem HBox.set1 (h:HBox w g x0 x1)(u:Value):HBox (w.setCell ⟨g,1,none⟩ u) g x0 u:=by
 unfold HBox at h ⊢;simp[World.setCell,Array.getElem?_modify,h]
end
def pre (all:List V):Except Bool (List V×Nat×Lz)→Except Bool (List V×Nat×Lz)
 | .error s=>.error s
 | .ok (ns,k,r)=>.ok (all++ns,k,r)
def zu5 (rb ib B sh it:Nat)(R:Except Bool (List V×Nat×Lz))(w:World)(e:Ending)(w':World):Prop:=
 match R with
 | .error s=>Fails (sel s sh) rb ib w e w'
 | .ok (ns,k,r)=>∃ An nn cn A2 n2 c2,e=.returned (.agg #[.slice An nn cn,.int .u8 (k:Int)])∧Nw w.heap.size w' (ns.take 16) An nn cn∧Rdr w' rb ib B A2 n2 c2 r sh it∧Up rb ib w w'
structure HS (rb ib B sh it S:Nat) (w wr:World) (all:List V) (L:Lz) (An:Oz) (nn cn code:Nat) (xs:List Value):Prop where
 box:HBox wr (S+1) (.slice An nn cn) (.int .u8 (code:Int))
 box2:HBox wr S (.slice none 0 0) (.int .u8 0)
 row:CS (S+2) wr An nn cn (all.take 16) xs
 rdr:∃ A n c,Rdr wr rb ib B A n c L sh it
 up:Up rb ib w wr
 sz:S=w.heap.size
 low:rb < S∧ib < S
theorem zii (all:List V)(v:V):(all++[v]).take 16=if (all.take 16).length < 16 then all.take 16++[v] else all.take 16:=by
 rw[List.take_append,yaP];by_cases h:all.length < 16
 ·rw[if_pos (by omega)]
  congr 1
  rw[List.take_of_length_le];simp;omega
 ·have e:16 - all.length=0:=by omega
  rw[if_neg (by omega),e];simp
theorem pre_nil (R:Except Bool (List V×Nat×Lz)):pre [] R=R:=by
 cases R with
 | error s=>rfl
 | ok p=>obtain⟨a,b,c⟩:=p;rfl
theorem zkq (all:List V)(v:V)(R:Except Bool (List V×Nat×Lz)):pre (all++[v]) R=pre all (match R with | .error s=>.error s | .ok (ns,k,r)=>.ok (v::ns,k,r)):=by
 cases R with
 | error s=>rfl
 | ok p=>obtain⟨a,b,c⟩:=p;simp[pre]
theorem zrb (X k:Nat)(hX:X < 18446744073709551616):sgw X k < 18446744073709551616:=by
 unfold sgw
 split
 ·rename_i h;obtain⟨h1,h2⟩:=h;have hp:(256:Nat) ^ k≤256 ^ 7:=Nat.pow_le_pow_right (by omega) h2;have hq:0 < (256:Nat) ^ k:=Nat.pow_pos (by omega);have hm:=Nat.mod_lt X hq
  split<;>omega
 ·exact hX
structure Fl (v:V):Prop where
 kids:v.kids=[]
 kind:v.kind < 256
 num:v.num < 18446744073709551616
theorem zhl (c:Nat)(d:Lz)(hd:∀ x∈d,x < 256):Fl (zag c d):=by
 have h1:=zif d hd;have h2:=zrb (tn d) d.length h1;have h3:=zgL c;refine⟨zbv c d,?_,?_⟩
 ·unfold zag
  (repeat' split)<;>simp only[V.kind]<;>omega
 ·unfold zag
  (repeat' split)<;>simp only[V.num]<;>omega
theorem zeX {c:Nat}{l d r:Lz}(h:zaC c l=some (d,r)):∃ p,l=p++d++r:=by
 unfold zaC at h;by_cases h0:sw c=0
 ·rw[if_pos h0] at h;by_cases h1:lg c≤l.length
  ·rw[if_pos h1] at h;injection h with h
   injection h with e1 e2
   subst e1 e2;exact⟨[],by simp⟩
  ·rw[if_neg h1] at h;cases h
 ·rw[if_neg h0] at h;by_cases h1:sw c≤l.length
  ·rw[if_pos h1] at h;by_cases h2:tn (l.take (sw c))≤(l.drop (sw c)).length
   ·rw[if_pos h2] at h;injection h with h
    injection h with e1 e2
    subst e1 e2;exact⟨l.take (sw c),by rw[List.append_assoc,yaQ,yaQ]⟩
   ·rw[if_neg h2] at h;cases h
  ·rw[if_neg h1] at h;cases h
theorem zfU {c:Nat}{l d r:Lz}(h:zaC c l=some (d,r))(hl:∀ x∈l,x < 256):(∀ x∈d,x < 256)∧(∀ x∈r,x < 256)∧d.length+r.length≤l.length:=by
 obtain⟨p,e⟩:=zeX h;subst e;exact⟨fun x hx=>hl x (by simp[hx]),fun x hx=>hl x (by simp[hx]),by simp only[List.length_append];omega⟩
theorem zmA {l r:Lz}{v:V}(h:za8 l=.ok (v,r))(hl:∀ x∈l,x < 256):Fl v∧(∀ x∈r,x < 256)∧r.length < l.length:=by
 cases l with
 | nil=>cases h
 | cons c l=>
  simp only[za8] at h
  split at h
  ·cases hd:zaC c l with
   | none=>rw[hd] at h;cases h
   | some q=>
    obtain⟨d,q⟩:=q;rw[hd] at h;simp only[Except.ok.injEq,yaN] at h;obtain⟨rfl,rfl⟩:=h;obtain⟨h1,h2,h3⟩:=zfU hd fun x hx=>hl x (by simp[hx]);exact⟨zhl c d h1,h2,by simp only[yaM];omega⟩
  ·cases h
section
variable {w wr w1 w2:World} {rb ib B sh it S nn cn code k:Nat} {all:List V} {l r:Lz} {An:Oz} {xs:List Value}
theorem HS.bB (h:HS rb ib B sh it S w wr all l An nn cn code xs):B≤S:=by
 obtain⟨A,n,c,hr⟩:=h.rdr;have:=hr.hr;have:=h.low;omega
theorem HS.named (h:HS rb ib B sh it S w wr all l An nn cn code xs)(gL:Up rb ib wr w1)(kg:Up rb ib (w1.setCell ⟨S+1,1,none⟩ (.int .u8 (k:Int))) w2)(hR:∃ A n c,Rdr w2 rb ib B A n c r sh it)(o:Obj) :
  HS rb ib B sh it S w (w2.alloc o) all r An nn cn k xs:=by
 have hl:=h.low;have gu:=gL.size;have Gw:=kg.size;have Hu:=h.sz;have Ha:=h.box.lt;simp at Gw;have e1:(w2.alloc o).heap[S+1]? = (w1.setCell ⟨S+1,1,none⟩ (.int .u8 (k:Int))).heap[S+1]?:=by
  rw[yaO _ _ _ (by omega)];exact kg.block _ (by simp;omega) (by omega) (by omega)
 have e2:(w2.alloc o).heap[S]? = wr.heap[S]?:=by
  rw[yaO _ _ _ (by omega),kg.block _ (by simp;omega) (by omega) (by omega),yaK _ _ _ _ (by simp)];exact gL.block _ (by omega) (by omega) (by omega)
 refine⟨((h.box.keep (gL.block _ Ha (by omega) (by omega))).set1 _).keep e1,h.box2.keep e2,?_,?_,?_,Hu,hl⟩
 ·exact(((h.row.up gL (by omega) (by omega)).far (by omega) _).up kg (by omega) (by omega)).call ((Below.refl _ _).alloc zab o)
 ·obtain⟨A,n,c,hr⟩:=hR;exact⟨A,n,c,hr.call ((Below.refl _ _).alloc zab o)⟩
 ·exact(((h.up.trans gL).far (by omega) _ _).trans kg).call ((Below.refl _ _).alloc zab o)
theorem HS.skip (h:HS rb ib B sh it S w wr all l An nn cn code xs)(v:V)(hn:¬ nn < 16):HS rb ib B sh it S w wr (all++[v]) l An nn cn code xs:=
 ⟨h.box,h.box2,h.row.cast (by rw[zii,if_neg (by rw[h.row.len];exact hn)]),h.rdr,h.up,h.sz,h.low⟩
theorem HS.more (h:HS rb ib B sh it S w wr all l An nn cn code xs){v:V}(hv:Fl v)(hn:nn < 16){g cap:Nat}{w9:World}(o:Obj)
  (Hf:w9.ownsRow (S+2) 43 4 (.slice (some ⟨g,0,none⟩) (nn+1) cap) (nn+1) (xs++[.int .u8 (v.kind:Int),.int .u64 (v.num:Int),.string v.text,.slice none 0 0])) (hg:(wr.alloc o).grownBy w9 (Value.slice An nn cn).ownBlock) (gT:(Value.slice An nn cn).ownBlock=some g∨wr.heap.size≤g) :
  HS rb ib B sh it S w (w9.setCell ⟨S+1,0,none⟩ (.slice (some ⟨g,0,none⟩) (nn+1) cap)) (all++[v]) l (some ⟨g,0,none⟩) (nn+1) cap code (xs++[.int .u8 (v.kind:Int),.int .u64 (v.num:Int),.string v.text,.slice none 0 0]):=by
 obtain⟨vk,vn,vt,vks⟩:=v;obtain⟨gF,gR,JX⟩:=hv;simp only[V.kids] at gF;subst gF;have hl:=h.low;have Hu:=h.sz;have Ha:=h.box.lt;have Hr:=h.row.own.lt;have hold:∀ i,i < S+2→w9.heap[i]? = wr.heap[i]?:=fun i hi=>by
  rw[hg.block i (by simp;omega) (fun e=>by have:=Hr i e.symm;omega)];exact yaO _ _ _ (by omega)
 have qM:=hg.size;simp at qM;have hB:=h.bB;have hp:=h.row.push (k:=vk) (m:=vn) (t:=vt) (ks:=[]) (A':=none) (l':=0) (c':=0) gR JX ⟨rfl,zab,fun h=>absurd h (by omega)⟩ o rfl Hf hg gT;refine⟨(h.box.keep (hold _ (by omega))).set0 _,(h.box2.keep (hold _ (by omega))).keep (yaK _ _ _ _ (by simp)),?_,?_,?_,Hu,hl⟩
 ·refine(hp.far (by omega) _).cast ?_;rw[zii,if_pos (by rw[h.row.len];exact hn)]
 ·obtain⟨A,n,c,hr⟩:=h.rdr;refine⟨A,n,c,(hr.keep (fun i hi=>hold i (by have:=hr.hr;rcases hi with rfl | rfl | hi<;>omega)) (by omega)).far (by omega) (by omega) (by omega) _⟩
 ·exact((h.up.call ((Below.refl _ _).alloc zab o)).grown hg (fun i e=>by have:=Hr i e;omega)).far (by omega) _ _
end
theorem zhm {w:World}{rb ib B n c sh it:Nat}{A:Oz}{L:Lz}(h:Rdr w rb ib B A n c L sh it) :
  Calls prog 62 #[.pointer (some ⟨rb,0,none⟩)] w (zu5 rb ib B sh it (headD L) w):=by
 unfold headD;obtain⟨W0,Gj⟩:∃ W0,W0=(w.alloc (.cells #[.slice none 0 0,.int .u8 0] 100)).alloc (.cells #[.slice none 0 0,.int .u8 0] 100):=⟨_,rfl⟩;have GK:Below w.heap.size w W0:=by rw[Gj];exact((za _ _)).alloc (by simp) _
 have hH:HS rb ib B sh it w.heap.size w W0 [] L none 0 0 0 []:=
  ⟨by rw[Gj];have:=heap_alloc_new (w.alloc (.cells #[.slice none 0 0,.int .u8 0] 100)) (.cells #[.slice none 0 0,.int .u8 0] 100);simpa [HBox] using this,
   by rw[Gj];exact(yaO _ _ _ (by simp)).trans (heap_alloc_new w _),CS.nil _ _,⟨A,n,c,h.call GK⟩,Up.of GK,rfl,h.lr,h.li⟩
 have v9:zaL (L.length+1) L=pre [] (zaL (L.length+1) L):=(pre_nil _).symm;obtain⟨R,hR⟩:∃ R,zaL (L.length+1) L=R:=⟨_,rfl⟩;rw[hR];rw[hR] at v9;have JH:=zaa v9;have HR:=zaa hR;clear v9 hR;go_enter func62,ntmps62;go_wp2;rw[←Gj];have HW:=zaa Gj;clear Gj;go_loopg [4] (L.length+1) (fun g s4 wr=>∃ all L' An nn cn code xs,L'.length < g∧HS rb ib B sh it w.heap.size w wr all L' An nn cn code xs∧R=pre all (zaL g L'))
 case atStart=>exact⟨[],L,_,_,_,_,_,by omega,hH,by rw[JH.out,HR.out]⟩
 case round=>
  obtain⟨all,L',An,nn,cn,code,xs,Hi,hS,gJ⟩:=hrel;obtain⟨f,rfl⟩:∃ f,gk=f+1:=⟨gk - 1,by omega⟩;obtain⟨A1,n1,c1,Gc⟩:=hS.rdr;obtain⟨x0,x1,xf⟩:=hS.box.all;have Bg:=hS.low;cases L' with
  | nil=>
   have kF:R=.error true:=by rw[gJ];rfl
   subst kF;clear gJ;go_wp2_with ((go_at_call 106;refine(zkp Gc).mono ?_;rintro e w1 ⟨rfl,gL⟩));exact⟨rfl,rfl,hS.up.trans gL⟩
  | cons k l=>
   have hl:l.length < f:=by simpa using Hi
   have Hz:∀ w1,Up rb ib wr w1→HBox w1 (w.heap.size+1) (.slice An nn cn) (.int .u8 (code:Int)):=fun w1 hu=>hS.box.keep (hu.block _ hS.box.lt (by omega) (by omega));have Bh:∀ w1 A2 n2 c2,Rdr w1 rb ib B A2 n2 c2 l sh it→Rdr (w1.setCell ⟨w.heap.size+1,1,none⟩ (.int .u8 (k:Int))) rb ib B A2 n2 c2 l sh it:=fun w1 A2 n2 c2 hr=>hr.far (by have:=h.low;omega) (by omega) (by omega) _;by_cases kB:k=0
   ·have d0:((k:Int) != 0)=false:=by simp;omega
    have yV:R=pre all (match za8 l with
     | .error s=>.error s
     | .ok (v,r)=>match zaL f r with
      | .error s=>.error s
      | .ok (ns,c',r')=>.ok (v::ns,c',r')):=by rw[gJ];simp only[zaL,if_pos kB];rfl
    clear gJ kB;cases hn:za8 l with
    | error s=>
     rw[hn] at yV;have kF:R=.error s:=yV;subst kF;clear yV;go_wp2_with (first
      | (go_at_call 106;refine(zcC Gc).mono ?_;rintro e w1 ⟨b1,o1,c1,A2,n2,c2,rfl,gM,hx,Xd,Ka,gL⟩;have Ha:=Hz w1 gL;obtain⟨y0,y1,yf⟩:=Ha.all;have Q3:=Bh _ _ _ _ Ka)
      | (go_at_call 107;refine(zrV Q3 hn).mono ?_;rintro e w2 ⟨rfl,kg⟩))
     exact⟨rfl,rfl,((hS.up.trans gL).far (by omega) _ _).trans kg⟩
    | ok q=>
     obtain⟨v,r⟩:=q;rw[hn] at yV;obtain⟨GV,_,JI⟩:=zmA hn fun x hx=>Gc.rd.lim x (by simp[hx]);have HRK:Hid (R=pre (all++[v]) (zaL f r)):=zaa (by rw[zkq];exact yV);have yW:=hS.row.own.lt;have Kw:=zbi hS.row.own;have JY:nn≤16:=by have:=hS.row.len;rw[yaP] at this;omega
     have Vu:=zaa hS;obtain⟨i0,hi,gE,Hn,gb⟩:=info_parts zdb;clear yV hS;by_cases Q4:nn < 16
     ·have d16:((nn:Int) < 16):=by omega
      go_wp2_with (first
       | (go_at_call 106;refine(zcC Gc).mono ?_;rintro e w1 ⟨b1,o1,c1,A2,n2,c2,rfl,gM,hx,Xd,Ka,gL⟩;have Ha:=Hz w1 gL;obtain⟨y0,y1,yf⟩:=Ha.all;have Q3:=Bh _ _ _ _ Ka)
       | (go_at_call 107;refine(zmz Q3 hn).mono ?_;rintro e w2 ⟨A3,n3,c3,rfl,jw,kg⟩;have H3:=Vu.out.named gL kg ⟨A3,n3,c3,jw⟩ (.cells #[.int .u8 (v.kind:Int),.int .u64 (v.num:Int),.string v.text,.slice none 0 0] 43);obtain⟨z0,z1,zf⟩:=H3.box.all;have YJ:=Box.new w2 (.int .u8 (v.kind:Int)) (.int .u64 (v.num:Int)) (.string v.text) (.slice none 0 0);obtain⟨v0,v1,v2,v3,vf⟩:=YJ.all;have Gw:w.heap.size+1 < w2.heap.size+1:=(by have:=H3.box.lt;simpa using this))
       | (at_builtin;refine wpList_append_lies _ rfl _ _ 41 rfl (w.heap.size+2) 43 i0 _ 4 56 underlying41 hi gE Hn gb rfl (by omega) _ _ _ rfl (H3.row.own.alloc _) ⟨w2.heap.size+1,0,none⟩ 1 1 [.int .u8 (v.kind:Int),.int .u64 (v.num:Int),.string v.text,.slice none 0 0] rfl rfl (news4 _ _ _ _ _ _ _ (by simp)) (fun u hu=>(by simp at hu;rcases hu with rfl | rfl | rfl | rfl<;>rfl)) (by omega) (by unfold maxLen;omega) (by omega) (by simp;omega) _ rfl ?_;intro g9 cap9 w9 Hb Hd Hv _;have hy9:=HBox.keep (w':=w9) H3.box ((Hd.block _ (by have:=H3.box.lt;simp;omega) (fun e=>by have:=H3.row.own.lt _ e.symm;omega)).trans (yaO _ _ _ H3.box.lt));obtain⟨q0,q1,qf⟩:=hy9.all))
      go_roundg f
      case measure=>omega
      case rel=>exact⟨all++[v],r,_,_,_,_,_,by omega,H3.more GV Q4 _ Hb Hd (Hv.imp id fun h=>by simp at h;simp;omega),HRK.out⟩
     ·have d16:¬ ((nn:Int) < 16):=by omega
      go_wp2_with (first
       | (go_at_call 106;refine(zcC Gc).mono ?_;rintro e w1 ⟨b1,o1,c1,A2,n2,c2,rfl,gM,hx,Xd,Ka,gL⟩;have Ha:=Hz w1 gL;obtain⟨y0,y1,yf⟩:=Ha.all;have Q3:=Bh _ _ _ _ Ka)
       | (go_at_call 107;refine(zmz Q3 hn).mono ?_;rintro e w2 ⟨A3,n3,c3,rfl,jw,kg⟩;have H3:=Vu.out.named gL kg ⟨A3,n3,c3,jw⟩ (.cells #[.int .u8 (v.kind:Int),.int .u64 (v.num:Int),.string v.text,.slice none 0 0] 43);obtain⟨z0,z1,zf⟩:=H3.box.all))
      go_roundg f
      case measure=>omega
      case rel=>exact⟨all++[v],r,_,_,_,_,_,by omega,H3.skip v Q4,HRK.out⟩
   ·have d0:((k:Int) != 0)=true:=by simp;omega
    by_cases hk:kof k=0
    ·have kF:R=.error false:=by rw[gJ];simp only[zaL,if_neg kB,if_pos hk];rfl
     subst kF;have HK:=zaa hk;clear gJ hk kB;go_wp2_with (first
      | (go_at_call 106;refine(zcC Gc).mono ?_;rintro e w1 ⟨b1,o1,c1,A2,n2,c2,rfl,gM,hx,Xd,Ka,gL⟩;have Ha:=Hz w1 gL;obtain⟨y0,y1,yf⟩:=Ha.all)
      | (go_at_call 108;refine(zaz k _).mono ?_;rintro e w' ⟨rfl,rfl⟩;rw[HK.out]))
     exact⟨rfl,rfl,(hS.up.trans gL).far (by omega) _ _⟩
    ·have kF:R=.ok (all,k,l):=by rw[gJ];simp only[zaL,if_neg kB,if_neg hk,pre,List.append_nil]
     subst kF;have dk:((kof k:Int)==0)=false:=by simp;omega
     clear gJ hk kB;go_wp2_with (first
      | (go_at_call 106;refine(zcC Gc).mono ?_;rintro e w1 ⟨b1,o1,c1,A2,n2,c2,rfl,gM,hx,Xd,Ka,gL⟩;have Ha:=Hz w1 gL;obtain⟨y0,y1,yf⟩:=Ha.all;have He:HBox w1 w.heap.size (.slice none 0 0) (.int .u8 0):=hS.box2.keep (gL.block _ hS.box2.lt (by omega) (by omega));obtain⟨z0,z1,zf⟩:=He.all)
      | (go_at_call 108;refine(zaz k _).mono ?_;rintro e w' ⟨rfl,rfl⟩))
     refine bodyPost_ret (v:=.agg #[.slice An nn cn,.int .u8 (k:Int)]) (by simp[results,results62,go_sem,z0,z1]) rfl ?_;have hBS:=hS.bB;have hss:=hS.sz;exact⟨An,nn,cn,A2,n2,c2,rfl,((((hS.row.up gL (by omega) (by omega)).far (by omega) _).far (by omega) _).far (by omega) _).nw.less (by omega),((Ka.far (by omega) (by omega) (by omega) _).far (by omega) (by omega) (by omega) _).far (by omega) (by omega) (by omega) _,(((hS.up.trans gL).far (by omega) _ _).far (by omega) _ _).far (by omega) _ _⟩
def GotV (S:Nat)(v:V)(e:Ending)(w':World):Prop:=
 ∃ Av lv cv,e=.returned (.agg #[.int .u8 (v.kind:Int),.int .u64 (v.num:Int),.string v.text,.slice Av lv cv])∧v.kind < 256∧v.num < 18446744073709551616∧Nw S w' v.kids Av lv cv
structure Nms (w:World) (rb ib:Nat) (ns:List V) (An:Oz) (nn cn:Nat):Prop where
 kids:Val.Kids true w (fun i=>i < w.heap.size∧i≠rb∧i≠ib) ns An nn cn
 fl:∀ v∈ns,Fl v
 few:nn≤16
def zmB (rb ib B:Nat)(A:Oz)(n c:Nat)(L:Lz)(sh:Nat)(R:Option (V×Nat))(w:World)(e:Ending)(w':World):Prop:=
 match R with
 | none=>Fails 6 ib ib w e w'
 | some (v,it')=>GotV w.heap.size v e w'∧it'≤1024∧Rdr w' rb ib B A n c L sh it'∧Up ib ib w w'
structure Told (F:Nat):Prop where
 get:∀ (w:World) (rb ib B n c sh it:Nat) (A:Oz) (L:Lz) (ns:List V) (An:Oz) (nn cn code:Nat) (d:Lz) (Ad:Oz) (nd cd:Nat),
  Rdr w rb ib B A n c L sh it→it≤1024→Nms w rb ib ns An nn cn→code < 256→Rd .u8 256 w B Ad nd d→nd≤cd→nd≤1099511627776→d.length < F →
  Calls prog 63 #[.pointer (some ⟨rb,0,none⟩),.agg #[.slice An nn cn,.int .u8 (code:Int)],.slice Ad nd cd] w (zmB rb ib B A n c L sh (zaG F it ns code d) w)
def valD (tl:Nat→List V→Nat→Lz→Option (V×Nat))(it:Nat)(l:Lz):Except Bool (V×Nat×Lz):=
 match headD l with
 | .error s=>.error s
 | .ok (ns,c,r)=>match zaC c r with
  | none=>.error true
  | some (d,r')=>match tl it (ns.take 16) c d with
   | none=>.error false
   | some (v,it')=>.ok (v,it',r')
theorem zhn (tl:Nat→List V→Nat→Lz→Option (V×Nat))(it:Nat)(l:Lz):zcg tl it l=(match valD tl it l with | .error _=>none | .ok x=>some x):=by
 unfold zcg valD;cases headD l with
 | error s=>rfl
 | ok p=>
  obtain⟨ns,c,r⟩:=p;simp only;cases zaC c r with
  | none=>rfl
  | some q=>
   obtain⟨d,r'⟩:=q;simp only;cases tl it (ns.take 16) c d with
   | none=>rfl
   | some q=>rfl
def ValR (rb ib B sh:Nat)(R:Except Bool (V×Nat×Lz))(w:World)(e:Ending)(w':World):Prop:=
 match R with
 | .error s=>Fails (sel s sh) rb ib w e w'
 | .ok (v,it',r)=>GotV w.heap.size v e w'∧it'≤1024∧(∃ A2 n2 c2,Rdr w' rb ib B A2 n2 c2 r sh it')∧Up rb ib w w'
def KidR (rb ib B:Nat)(R:Option (V×Nat×Lz))(w:World)(e:Ending)(w':World):Prop:=
 match R with
 | none=>Fails 6 rb ib w e w'
 | some (v,it',r)=>GotV w.heap.size v e w'∧it'≤1024∧(∃ A2 n2 c2,Rdr w' rb ib B A2 n2 c2 r 6 it')∧Up rb ib w w'
theorem HBox.new (w:World)(x0 x1:Value):HBox (w.alloc (.cells #[x0,x1] 100)) w.heap.size x0 x1:=heap_alloc_new w _
theorem HBox.up {a b g:Nat}{w w':World}{x0 x1:Value}(h:HBox w g x0 x1)(hu:Up a b w w')(ha:g≠a)(hb:g≠b):HBox w' g x0 x1:=h.keep (hu.block g h.lt ha hb)
theorem HBox.far4 {g g':Nat}{w:World}{x0 x1:Value}(h:HBox w g x0 x1)(hp:g≠g')(a b c d:Value):HBox ((((w.setCell ⟨g',0,none⟩ a).setCell ⟨g',1,none⟩ b).setCell ⟨g',2,none⟩ c).setCell ⟨g',3,none⟩ d) g x0 x1:=
 (((h.keep (yaK _ _ _ _ hp)).keep (yaK _ _ _ _ hp)).keep (yaK _ _ _ _ hp)).keep (yaK _ _ _ _ hp)
theorem zci (w:World)(g:Nat)(a b c d:Value)(i:Nat)(hi:i≠g):((((w.setCell ⟨g,0,none⟩ a).setCell ⟨g,1,none⟩ b).setCell ⟨g,2,none⟩ c).setCell ⟨g,3,none⟩ d).heap[i]? = w.heap[i]?:=by rw[yaK _ _ _ _ hi,yaK _ _ _ _ hi,yaK _ _ _ _ hi,yaK _ _ _ _ hi]
theorem zek (w:World)(g:Nat)(a b c d:Value):((((w.setCell ⟨g,0,none⟩ a).setCell ⟨g,1,none⟩ b).setCell ⟨g,2,none⟩ c).setCell ⟨g,3,none⟩ d).heap.size=w.heap.size:=by simp
theorem zeY {S g:Nat}{w:World}{ks:List V}{A:Oz}{l c:Nat}(h:Nw S w ks A l c)(hg:g < S)(x y z u:Value):Nw S ((((w.setCell ⟨g,0,none⟩ x).setCell ⟨g,1,none⟩ y).setCell ⟨g,2,none⟩ z).setCell ⟨g,3,none⟩ u) ks A l c:=
 (h.keep fun i hi=>zci w g x y z u i (by omega)).mono fun i hi=>⟨hi.1,by rw[zek];exact hi.2⟩
theorem Nms.of {S rb ib:Nat}{w w':World}{ns:List V}{An:Oz}{nn cn:Nat}(h:Nw S w ns An nn cn)(hS:rb < S)(hS':ib < S)(hk:∀ i,i < w.heap.size→i≠rb→i≠ib→w'.heap[i]? = w.heap[i]?)(hs:w.heap.size≤w'.heap.size)(hf:∀ v∈ns,Fl v)(YK:ns.length≤16):Nms w' rb ib ns An nn cn:=
 ⟨(Val.Kids.keep h fun i hi=>hk i hi.2 (by omega) (by omega)).mono fun i hi=>⟨yaJ hi.2 hs,by omega,by omega⟩,hf,by rw[h.len];exact YK⟩
theorem zjL:∀ (N:Nat) (l:Lz) (ns:List V) (c:Nat) (r:Lz),zaL N l=.ok (ns,c,r)→(∀ x∈l,x < 256)→(∀ v∈ns,Fl v)∧c < 256∧(∀ x∈r,x < 256)∧r.length < l.length
 | 0,_,_,_,_,h,_=>by simp[zaL] at h
 | _+1,[],_,_,_,h,_=>by simp[zaL] at h
 | N+1,c::l,ns,c',r,h,hl=>by
  rw[zaL] at h;by_cases hc:c=0
  ·rw[if_pos hc] at h;cases hn:za8 l with
   | error s=>rw[hn] at h;cases h
   | ok p=>
    obtain⟨v,r1⟩:=p;rw[hn] at h;obtain⟨f1,f2,f3⟩:=zmA hn fun x hx=>hl x (by simp[hx]);simp only at h;cases h2:zaL N r1 with
    | error s=>rw[h2] at h;cases h
    | ok p=>
     obtain⟨ns2,c2,r2⟩:=p;rw[h2] at h;simp only[Except.ok.injEq,yaN] at h;obtain⟨rfl,rfl,rfl⟩:=h;obtain⟨g1,g2,g3,g4⟩:=zjL N r1 _ _ _ h2 f2;refine⟨fun x hx=>?_,g2,g3,by simp only[yaM];omega⟩;rcases List.mem_cons.1 hx with rfl | hx
     ·exact f1
     ·exact g1 x hx
  ·rw[if_neg hc] at h
   split at h
   ·cases h
   ·simp only[Except.ok.injEq,yaN] at h;obtain⟨rfl,rfl,rfl⟩:=h;exact⟨fun v hv=>(by cases hv),hl _ (by simp),fun x hx=>hl x (by simp[hx]),by simp⟩
theorem zfV {F:Nat}(hT:Told F){w:World}{rb ib B n c sh it:Nat}{A:Oz}{L:Lz}(h:Rdr w rb ib B A n c L sh it)(Gx:it≤1024)(hF:L.length≤F) :
  Calls prog 31 #[.pointer (some ⟨rb,0,none⟩)] w (ValR rb ib B sh (valD (zaG F) it L) w):=by
 have v8:=h.lr;have JG:=h.li;have gO:=h.low;obtain⟨W0,Gj⟩:∃ W0,w.alloc (.cells #[.int .u8 0,.int .u64 0,.string ⟨#[]⟩,.slice none 0 0] 43)=W0:=⟨_,rfl⟩;have GK:Below w.heap.size w W0:=by rw[←Gj];exact(za _ _)
 have Ci:Box W0 w.heap.size (.int .u8 0) (.int .u64 0) (.string ⟨#[]⟩) (.slice none 0 0):=by rw[←Gj];exact Box.new _ _ _ _ _
 have kN:W0.heap.size=w.heap.size+1:=by rw[←Gj];simp
 have h0:=h.call GK;have hA:=zhm h0;have xe:Up rb ib w W0:=Up.of GK;unfold valD;cases hR:headD L with
 | error s=>
  rw[hR] at hA;go_enter func31,ntmps31;go_wp2_with ((go_at_call 62;refine hA.mono ?_;rintro e w1 ⟨rfl,gL⟩));exact⟨rfl,rfl,xe.trans gL⟩
 | ok p=>
  obtain⟨ns,k,r⟩:=p;rw[hR] at hA;obtain⟨GV,hk,Bg,JI⟩:=zjL _ _ _ _ _ hR h.rd.lim;have Ju:∀ v∈ns.take 16,Fl v:=fun v hv=>GV v (List.mem_of_mem_take hv);have qA:(ns.take 16).length≤16:=by rw[yaP];omega
  obtain⟨ms,Vv⟩:∃ ms,ns.take 16=ms:=⟨_,rfl⟩;rw[Vv] at Ju qA;simp only;rw[Vv];have YL:=zaa Vv;clear hR GV Vv;have AFTER:∀ {w1 w3:World} {An:Oz} {nn cn:Nat},Up rb ib W0 w1→Nw W0.heap.size w1 ms An nn cn→Up rb ib (w1.alloc (.cells #[.slice An nn cn,.int .u8 (k:Int)] 100)).drew w3→Nms w3 rb ib ms An nn cn:=fun {w1 w3 An nn cn} gL Qe gW=>by
   have e1:=gL.size;have e3:=gW.size;simp at e3;exact Nms.of Qe (by omega) (by omega) (fun i hi ha hb=>(gW.block i (by simp;omega) ha hb).trans (yaO _ _ _ hi)) (by omega) Ju qA
  cases hd:zaC k r with
  | none=>
   go_enter func31,ntmps31;go_wp2_with ((go_at_call 62;refine hA.mono ?_;rintro e w1 ⟨An,nn,cn,A2,n2,c2,rfl,Qe,Ka,gL⟩;rw[YL.out] at Qe));have Hz:HBox (w1.alloc (.cells #[.slice An nn cn,.int .u8 (k:Int)] 100)).drew w1.heap.size (.slice An nn cn) (.int .u8 (k:Int)):=HBox.new w1 (.slice An nn cn) (.int .u8 (k:Int));have e1:=gL.size;have Vw:=Ka.call ((Below.refl _ _).alloc zab (.cells #[.slice An nn cn,.int .u8 (k:Int)] 100)).drew;have Vx:Up rb ib w _:=(xe.trans gL).call ((Below.refl _ _).alloc zab (.cells #[.slice An nn cn,.int .u8 (k:Int)] 100)).drew;refine wp_region_held_drew (S:=fun wx=>HBox wx w1.heap.size (.slice An nn cn) (.int .u8 (k:Int))) (by kernel_rfl) (by exact Hz) (fun hHeld=>?_)
   try simp only[Act.put,sA,sB,sC]
   (refine T1K 0 ⟨some 6,_,_,_,_,_⟩ ?_ rfl (by kernel_rfl) (fun _ _ _ h=>h) ?_ (by assumption) ?_;rotate_left 1;(· intro wx Hc;(try dsimp only at Hc);obtain⟨y0,y1,yf⟩:=HBox.all Hc;go_simp;(try with_reducible rfl)))
   try simp only[Act.put,sA,sB,sC]
   (refine T1K 1 ⟨some 7,_,_,_,_,_⟩ ?_ rfl (by kernel_rfl) (fun _ _ _ h=>h) ?_ (by assumption) ?_;rotate_left 1;(· intro wx Hc;(try dsimp only at Hc);obtain⟨y0,y1,yf⟩:=HBox.all Hc;go_simp;(try with_reducible rfl)))
   try simp only[Act.put,sA,sB,sC]
   (refine T1K 2 ⟨some 8,_,_,_,_,_⟩ ?_ rfl (by kernel_rfl) (fun _ _ _ h=>h) ?_ (by assumption) ?_;rotate_left 1;(· intro wx Hc;(try dsimp only at Hc);obtain⟨y0,y1,yf⟩:=HBox.all Hc;go_simp;(try with_reducible rfl)))
   try simp only[Act.put,sA,sB,sC]
   (refine T1K 3 ⟨some 9,_,_,_,_,_⟩ ?_ rfl (by kernel_rfl) (fun _ _ _ h=>h) ?_ (by assumption) ?_;rotate_left 1;(· intro wx Hc;(try dsimp only at Hc);obtain⟨y0,y1,yf⟩:=HBox.all Hc;go_simp;(try with_reducible rfl)))
   try simp only[Act.put,sA,sB,sC]
   (refine T1K 4 ⟨some 10,_,_,_,_,_⟩ ?_ rfl (by kernel_rfl) (fun _ _ _ h=>h) ?_ (by assumption) ?_;rotate_left 1;(· intro wx Hc;(try dsimp only at Hc);obtain⟨y0,y1,yf⟩:=HBox.all Hc;go_simp;(try with_reducible rfl)))
   try simp only[Act.put,sA,sB,sC]
   (refine wpAnyH_ready (rs:=[5]) (by kernel_rfl) (by simp) ?_;refine AllReadyH.cons (o:=⟨some 11,_,_,_,_,_⟩) rfl (fun K hK=>?_) AllReadyH.nil;go_simp;(go_at_call 64;refine(zjK Vw k hd).mono ?_;rintro e w3 ⟨rfl,gW⟩);go_wp2_with fail)
   try simp only[Act.put,sA,sB,sC]
   exact⟨rfl,rfl,Vx.trans gW⟩
   try simp only[Act.put,sA,sB,sC]
  | some q=>
   obtain⟨d,r'⟩:=q;obtain⟨hdb,Cj,Jc⟩:=zfU hd Bg;simp only;cases ht:zaG F it ms k d with
   | none=>
    go_enter func31,ntmps31;go_wp2_with ((go_at_call 62;refine hA.mono ?_;rintro e w1 ⟨An,nn,cn,A2,n2,c2,rfl,Qe,Ka,gL⟩;rw[YL.out] at Qe));have Hz:HBox (w1.alloc (.cells #[.slice An nn cn,.int .u8 (k:Int)] 100)).drew w1.heap.size (.slice An nn cn) (.int .u8 (k:Int)):=HBox.new w1 (.slice An nn cn) (.int .u8 (k:Int));have e1:=gL.size;have Vw:=Ka.call ((Below.refl _ _).alloc zab (.cells #[.slice An nn cn,.int .u8 (k:Int)] 100)).drew;have Vx:Up rb ib w _:=(xe.trans gL).call ((Below.refl _ _).alloc zab (.cells #[.slice An nn cn,.int .u8 (k:Int)] 100)).drew;have K':∀ {w3:World} {A3:Oz} {m3 c3:Nat} {A4:Oz} {n4 c4:Nat},Rd .u8 256 w3 B A3 m3 d→m3≤c3→Rdr w3 rb ib B A4 n4 c4 r' sh it→Up rb ib (w1.alloc (.cells #[.slice An nn cn,.int .u8 (k:Int)] 100)).drew w3 →
      Calls prog 63 #[.pointer (some ⟨rb,0,none⟩),.agg #[.slice An nn cn,.int .u8 (k:Int)],.slice A3 m3 c3] w3 (Fails 6 ib ib w3):=fun {w3 A3 m3 c3 A4 n4 c4} kT kS jx gW=>by
     have:=hT.get w3 rb ib B n4 c4 sh it A4 r' ms An nn cn k d A3 m3 c3 jx Gx (AFTER gL Qe gW) hk kT kS (by rw[←kT.len];have:=h.rd.len;have:=h.lim;omega) (by omega);rw[ht] at this;exact this
    refine wp_region_held_drew (S:=fun wx=>HBox wx w1.heap.size (.slice An nn cn) (.int .u8 (k:Int))) (by kernel_rfl) (by exact Hz) (fun hHeld=>?_)
    try simp only[Act.put,sA,sB,sC]
    (refine T1K 0 ⟨some 6,_,_,_,_,_⟩ ?_ rfl (by kernel_rfl) (fun _ _ _ h=>h) ?_ (by assumption) ?_;rotate_left 1;(· intro wx Hc;(try dsimp only at Hc);obtain⟨y0,y1,yf⟩:=HBox.all Hc;go_simp;(try with_reducible rfl)))
    try simp only[Act.put,sA,sB,sC]
    (refine T1K 1 ⟨some 7,_,_,_,_,_⟩ ?_ rfl (by kernel_rfl) (fun _ _ _ h=>h) ?_ (by assumption) ?_;rotate_left 1;(· intro wx Hc;(try dsimp only at Hc);obtain⟨y0,y1,yf⟩:=HBox.all Hc;go_simp;(try with_reducible rfl)))
    try simp only[Act.put,sA,sB,sC]
    (refine T1K 2 ⟨some 8,_,_,_,_,_⟩ ?_ rfl (by kernel_rfl) (fun _ _ _ h=>h) ?_ (by assumption) ?_;rotate_left 1;(· intro wx Hc;(try dsimp only at Hc);obtain⟨y0,y1,yf⟩:=HBox.all Hc;go_simp;(try with_reducible rfl)))
    try simp only[Act.put,sA,sB,sC]
    (refine T1K 3 ⟨some 9,_,_,_,_,_⟩ ?_ rfl (by kernel_rfl) (fun _ _ _ h=>h) ?_ (by assumption) ?_;rotate_left 1;(· intro wx Hc;(try dsimp only at Hc);obtain⟨y0,y1,yf⟩:=HBox.all Hc;go_simp;(try with_reducible rfl)))
    try simp only[Act.put,sA,sB,sC]
    (refine T1K 4 ⟨some 10,_,_,_,_,_⟩ ?_ rfl (by kernel_rfl) (fun _ _ _ h=>h) ?_ (by assumption) ?_;rotate_left 1;(· intro wx Hc;(try dsimp only at Hc);obtain⟨y0,y1,yf⟩:=HBox.all Hc;go_simp;(try with_reducible rfl)))
    try simp only[Act.put,sA,sB,sC]
    (refine wpAnyH_ready (rs:=[5]) (by kernel_rfl) (by simp) ?_;refine AllReadyH.cons (o:=⟨some 11,_,_,_,_,_⟩) rfl (fun K hK=>?_) AllReadyH.nil;go_simp;(go_at_call 64;refine(zfT Vw k hd).mono ?_;rintro e w3 ⟨A3,m3,c3,A4,n4,c4,rfl,kS,kT,jx,gW⟩;have G8:=HBox.up Hz gW (show w1.heap.size≠rb by omega) (show w1.heap.size≠ib by omega));go_wp2_with fail;refine hK.out _ _ ?_ (fun hHeld=>?_);(· exact G8);clear hK K)
    try simp only[Act.put,sA,sB,sC]
    (refine wpAnyH_ready (rs:=[6]) (by kernel_rfl) (by simp) ?_;refine AllReadyH.cons (o:=⟨some 12,_,_,_,_,_⟩) rfl (fun K hK=>?_) AllReadyH.nil;go_simp;(go_at_call 63;refine((K' kT kS jx gW).mono ?_);rintro e w4 ⟨rfl,KW⟩);go_wp2_with fail)
    try simp only[Act.put,sA,sB,sC]
    exact⟨rfl,rfl,(Vx.trans gW).trans KW.wide⟩
    try simp only[Act.put,sA,sB,sC]
   | some q=>
    obtain⟨v,it'⟩:=q;go_enter func31,ntmps31;go_wp2_with ((go_at_call 62;refine hA.mono ?_;rintro e w1 ⟨An,nn,cn,A2,n2,c2,rfl,Qe,Ka,gL⟩;rw[YL.out] at Qe));have Hz:HBox (w1.alloc (.cells #[.slice An nn cn,.int .u8 (k:Int)] 100)).drew w1.heap.size (.slice An nn cn) (.int .u8 (k:Int)):=HBox.new w1 (.slice An nn cn) (.int .u8 (k:Int));have yX:Box (w1.alloc (.cells #[.slice An nn cn,.int .u8 (k:Int)] 100)).drew w.heap.size (.int .u8 0) (.int .u64 0) (.string ⟨#[]⟩) (.slice none 0 0):=(Box.up Ci gL (by omega) (by omega)).alloc _;have e1:=gL.size;have Vw:=Ka.call ((Below.refl _ _).alloc zab (.cells #[.slice An nn cn,.int .u8 (k:Int)] 100)).drew;have Vx:Up rb ib w _:=(xe.trans gL).call ((Below.refl _ _).alloc zab (.cells #[.slice An nn cn,.int .u8 (k:Int)] 100)).drew;have K':∀ {w3:World} {A3:Oz} {m3 c3:Nat} {A4:Oz} {n4 c4:Nat},Rd .u8 256 w3 B A3 m3 d→m3≤c3→Rdr w3 rb ib B A4 n4 c4 r' sh it→Up rb ib (w1.alloc (.cells #[.slice An nn cn,.int .u8 (k:Int)] 100)).drew w3 →
      Calls prog 63 #[.pointer (some ⟨rb,0,none⟩),.agg #[.slice An nn cn,.int .u8 (k:Int)],.slice A3 m3 c3] w3 (zmB rb ib B A4 n4 c4 r' sh (some (v,it')) w3):=fun {w3 A3 m3 c3 A4 n4 c4} kT kS jx gW=>by
     have:=hT.get w3 rb ib B n4 c4 sh it A4 r' ms An nn cn k d A3 m3 c3 jx Gx (AFTER gL Qe gW) hk kT kS (by rw[←kT.len];have:=h.rd.len;have:=h.lim;omega) (by omega);rw[ht] at this;exact this
    refine wp_region_held_drew (S:=fun wx=>HBox wx w1.heap.size (.slice An nn cn) (.int .u8 (k:Int))) (by kernel_rfl) (by exact Hz) (fun hHeld=>?_)
    try simp only[Act.put,sA,sB,sC]
    (refine T1K 0 ⟨some 6,_,_,_,_,_⟩ ?_ rfl (by kernel_rfl) (fun _ _ _ h=>h) ?_ (by assumption) ?_;rotate_left 1;(· intro wx Hc;(try dsimp only at Hc);obtain⟨y0,y1,yf⟩:=HBox.all Hc;go_simp;(try with_reducible rfl)))
    try simp only[Act.put,sA,sB,sC]
    (refine T1K 1 ⟨some 7,_,_,_,_,_⟩ ?_ rfl (by kernel_rfl) (fun _ _ _ h=>h) ?_ (by assumption) ?_;rotate_left 1;(· intro wx Hc;(try dsimp only at Hc);obtain⟨y0,y1,yf⟩:=HBox.all Hc;go_simp;(try with_reducible rfl)))
    try simp only[Act.put,sA,sB,sC]
    (refine T1K 2 ⟨some 8,_,_,_,_,_⟩ ?_ rfl (by kernel_rfl) (fun _ _ _ h=>h) ?_ (by assumption) ?_;rotate_left 1;(· intro wx Hc;(try dsimp only at Hc);obtain⟨y0,y1,yf⟩:=HBox.all Hc;go_simp;(try with_reducible rfl)))
    try simp only[Act.put,sA,sB,sC]
    (refine T1K 3 ⟨some 9,_,_,_,_,_⟩ ?_ rfl (by kernel_rfl) (fun _ _ _ h=>h) ?_ (by assumption) ?_;rotate_left 1;(· intro wx Hc;(try dsimp only at Hc);obtain⟨y0,y1,yf⟩:=HBox.all Hc;go_simp;(try with_reducible rfl)))
    try simp only[Act.put,sA,sB,sC]
    (refine T1K 4 ⟨some 10,_,_,_,_,_⟩ ?_ rfl (by kernel_rfl) (fun _ _ _ h=>h) ?_ (by assumption) ?_;rotate_left 1;(· intro wx Hc;(try dsimp only at Hc);obtain⟨y0,y1,yf⟩:=HBox.all Hc;go_simp;(try with_reducible rfl)))
    try simp only[Act.put,sA,sB,sC]
    (refine wpAnyH_ready (rs:=[5]) (by kernel_rfl) (by simp) ?_;refine AllReadyH.cons (o:=⟨some 11,_,_,_,_,_⟩) rfl (fun K hK=>?_) AllReadyH.nil;go_simp;(go_at_call 64;refine(zfT Vw k hd).mono ?_;rintro e w3 ⟨A3,m3,c3,A4,n4,c4,rfl,kS,kT,jx,gW⟩;have G8:=HBox.up Hz gW (show w1.heap.size≠rb by omega) (show w1.heap.size≠ib by omega));go_wp2_with fail;refine hK.out _ _ ?_ (fun hHeld=>?_);(· exact G8);clear hK K)
    try simp only[Act.put,sA,sB,sC]
    (refine wpAnyH_ready (rs:=[6]) (by kernel_rfl) (by simp) ?_;refine AllReadyH.cons (o:=⟨some 12,_,_,_,_,_⟩) rfl (fun K hK=>?_) AllReadyH.nil;go_simp;(go_at_call 63;refine((K' kT kS jx gW).mono ?_);rintro e w4 ⟨⟨Av,lv,cv,rfl,Kb,kC,JJ⟩,Q5,Bi,KW⟩;have Q6:=HBox.up G8 KW (show w1.heap.size≠ib by omega) (show w1.heap.size≠ib by omega));go_wp2_with fail;refine hK.out _ _ ?_ (fun hHeld=>?_);(· exact Q6);clear hK K)
    try simp only[Act.put,sA,sB,sC]
    have kY:=Box.up (Box.up yX gW (by omega) (by omega)) KW (by omega) (by omega);obtain⟨z0,z1,z2,z3,zf⟩:=kY.all
    try simp only[Act.put,sA,sB,sC]
    (refine wpAnyH_ready (rs:=[7]) (by kernel_rfl) (by simp) ?_;refine AllReadyH.cons (o:=⟨none,_,_,_,_,_⟩) rfl (fun K hK=>?_) AllReadyH.nil;go_simp;go_wp2_with fail;refine hK.out _ _ ?_ (fun hHeld=>?_);(· exact(HBox.far4 Q6 (by omega) _ _ _ _));clear hK K)
    try simp only[Act.put,sA,sB,sC]
    refine wpAnyH_done (by kernel_rfl) ?_ _
    try simp only[Act.put,sA,sB,sC]
    go_wp2_with fail;refine bodyPost_ret (v:=.agg #[.int .u8 (v.kind:Int),.int .u64 (v.num:Int),.string v.text,.slice Av lv cv]) (by simp[results,results31,go_sem,z0,z1,z2,z3]) rfl ?_;have e3:=gW.size;simp at e3;exact⟨⟨Av,lv,cv,rfl,Kb,kC,Nw.less (zeY JJ (by omega) _ _ _ _) (by omega)⟩,Q5,⟨A4,n4,c4,Bi.far4 gO (by omega) (by omega) _ _ _ _⟩,zcV ((Vx.trans gW).trans KW.wide) zab _ _ _ _⟩
    try simp only[Act.put,sA,sB,sC]
theorem zmC (s:Bool):sel s 6=6:=by unfold sel;split<;>rfl
theorem zpw {F:Nat}(hT:Told F){w:World}{rb ib B n c it:Nat}{A:Oz}{L:Lz}(h:Rdr w rb ib B A n c L 6 it)(Gx:it≤1024)(hF:L.length≤F) :
  Calls prog 31 #[.pointer (some ⟨rb,0,none⟩)] w (KidR rb ib B (zcg (zaG F) it L) w):=by
 refine(zfV hT h Gx hF).mono ?_;rw[zhn];cases valD (zaG F) it L with
 | error s=>
  intro e w' he;have he:Fails (sel s 6) rb ib w e w':=he;rw[zmC] at he;exact he
 | ok p=>
  obtain⟨v,it',r⟩:=p;exact fun e w' he=>he
theorem zpx {F:Nat}(hT:Told F){w:World}{rb ib B n c it G k:Nat}{A:Oz}{L:Lz}{ms:List V}{An:Oz}{nn cn:Nat}(h:Rdr w rb ib B A n c L 6 it)(Gx:it≤1024)(hF:L.length < F)
  (hb:HBox w G (.slice An nn cn) (.int .u8 (k:Int))) (hGr:G≠rb) (hGi:G≠ib) (hN:Nms w rb ib ms An nn cn) (hk:k < 256) :
  Calls prog 151 #[.pointer (some ⟨rb,0,none⟩),.pointer (some ⟨G,0,none⟩)] w (KidR rb ib B (zch (zaG F) ms k it L) w):=by
 have v8:=h.lr;have JG:=h.li;have gO:=h.low;have Vt:=hb.lt;obtain⟨W0,Gj⟩:∃ W0,(w.alloc (.cells #[.int .u8 0,.int .u64 0,.string ⟨#[]⟩,.slice none 0 0] 43))=W0:=⟨_,rfl⟩;have GK:Below w.heap.size w W0:=by rw[←Gj];exact((za _ _))
 have yX:Box W0.drew w.heap.size (.int .u8 0) (.int .u64 0) (.string ⟨#[]⟩) (.slice none 0 0):=by rw[←Gj];exact Box.new _ _ _ _ _
 have kN:W0.heap.size=w.heap.size+1:=by rw[←Gj];simp
 have Vw:=(h.call GK).call (Below.refl _ _).drew;have Hz:HBox W0.drew G (.slice An nn cn) (.int .u8 (k:Int)):=hb.keep (GK.block _ Vt);have Vx:Up rb ib w W0.drew:=Up.of GK.drew;have AFTER:∀ {w3:World},Up rb ib W0.drew w3→Nms w3 rb ib ms An nn cn:=fun {w3} gW=>by
  have e3:=gW.size;have e4:W0.drew.heap.size=W0.heap.size:=rfl;exact⟨(hN.kids.keep fun i hi=>(gW.block i (by rw[e4];omega) hi.2.1 hi.2.2).trans (GK.block _ hi.1)).mono fun i hi=>⟨by omega,hi.2.1,hi.2.2⟩,hN.fl,hN.few⟩
 have hHW:=zaa kN;unfold zch;cases hd:zaC k L with
 | none=>
  simp only;go_enter func151,ntmps151;go_wp2_with fail;refine wp_region_held_drew (S:=fun wx=>HBox wx G (.slice An nn cn) (.int .u8 (k:Int))) (by kernel_rfl) (by exact Hz) (fun hHeld=>?_)
  try simp only[Act.put,sA,sB,sC]
  (refine T1K 0 ⟨some 3,_,_,_,_,_⟩ ?_ rfl (by kernel_rfl) (fun _ _ _ h=>h) ?_ (by assumption) ?_;rotate_left 1;(· intro wx Hc;(try dsimp only at Hc);obtain⟨y0,y1,yf⟩:=HBox.all Hc;go_simp;(try with_reducible rfl)))
  try simp only[Act.put,sA,sB,sC]
  (refine T1K 1 ⟨some 4,_,_,_,_,_⟩ ?_ rfl (by kernel_rfl) (fun _ _ _ h=>h) ?_ (by assumption) ?_;rotate_left 1;(· intro wx Hc;(try dsimp only at Hc);obtain⟨y0,y1,yf⟩:=HBox.all Hc;go_simp;(try with_reducible rfl)))
  try simp only[Act.put,sA,sB,sC]
  (refine T1K 2 ⟨some 5,_,_,_,_,_⟩ ?_ rfl (by kernel_rfl) (fun _ _ _ h=>h) ?_ (by assumption) ?_;rotate_left 1;(· intro wx Hc;(try dsimp only at Hc);obtain⟨y0,y1,yf⟩:=HBox.all Hc;go_simp;(try with_reducible rfl)))
  try simp only[Act.put,sA,sB,sC]
  (refine wpAnyH_ready (rs:=[3]) (by kernel_rfl) (by simp) ?_;refine AllReadyH.cons (o:=⟨some 6,_,_,_,_,_⟩) rfl (fun K hK=>?_) AllReadyH.nil;go_simp;(go_at_call 64;refine(zjK Vw k hd).mono ?_;rintro e w3 ⟨rfl,gW⟩);go_wp2_with fail)
  try simp only[Act.put,sA,sB,sC]
  exact⟨rfl,rfl,Vx.trans gW⟩
  try simp only[Act.put,sA,sB,sC]
 | some q=>
  obtain⟨d,r'⟩:=q;obtain⟨hdb,Cj,Jc⟩:=zfU hd h.rd.lim;simp only;cases ht:zaG F it ms k d with
  | none=>
   simp only;go_enter func151,ntmps151;go_wp2_with fail;have K':∀ {w3:World} {A3:Oz} {m3 c3:Nat} {A4:Oz} {n4 c4:Nat},Rd .u8 256 w3 B A3 m3 d→m3≤c3→Rdr w3 rb ib B A4 n4 c4 r' 6 it→Up rb ib W0.drew w3 →
     Calls prog 63 #[.pointer (some ⟨rb,0,none⟩),.agg #[.slice An nn cn,.int .u8 (k:Int)],.slice A3 m3 c3] w3 (Fails 6 ib ib w3):=fun {w3 A3 m3 c3 A4 n4 c4} kT kS jx gW=>by
    have:=hT.get w3 rb ib B n4 c4 6 it A4 r' ms An nn cn k d A3 m3 c3 jx Gx (AFTER gW) hk kT kS (by rw[←kT.len];have:=h.rd.len;have:=h.lim;omega) (by omega);rw[ht] at this;exact this
   refine wp_region_held_drew (S:=fun wx=>HBox wx G (.slice An nn cn) (.int .u8 (k:Int))) (by kernel_rfl) (by exact Hz) (fun hHeld=>?_)
   try simp only[Act.put,sA,sB,sC]
   (refine T1K 0 ⟨some 3,_,_,_,_,_⟩ ?_ rfl (by kernel_rfl) (fun _ _ _ h=>h) ?_ (by assumption) ?_;rotate_left 1;(· intro wx Hc;(try dsimp only at Hc);obtain⟨y0,y1,yf⟩:=HBox.all Hc;go_simp;(try with_reducible rfl)))
   try simp only[Act.put,sA,sB,sC]
   (refine T1K 1 ⟨some 4,_,_,_,_,_⟩ ?_ rfl (by kernel_rfl) (fun _ _ _ h=>h) ?_ (by assumption) ?_;rotate_left 1;(· intro wx Hc;(try dsimp only at Hc);obtain⟨y0,y1,yf⟩:=HBox.all Hc;go_simp;(try with_reducible rfl)))
   try simp only[Act.put,sA,sB,sC]
   (refine T1K 2 ⟨some 5,_,_,_,_,_⟩ ?_ rfl (by kernel_rfl) (fun _ _ _ h=>h) ?_ (by assumption) ?_;rotate_left 1;(· intro wx Hc;(try dsimp only at Hc);obtain⟨y0,y1,yf⟩:=HBox.all Hc;go_simp;(try with_reducible rfl)))
   try simp only[Act.put,sA,sB,sC]
   (refine wpAnyH_ready (rs:=[3]) (by kernel_rfl) (by simp) ?_;refine AllReadyH.cons (o:=⟨some 6,_,_,_,_,_⟩) rfl (fun K hK=>?_) AllReadyH.nil;go_simp;(go_at_call 64;refine(zfT Vw k hd).mono ?_;rintro e w3 ⟨A3,m3,c3,A4,n4,c4,rfl,kS,kT,jx,gW⟩;have G8:=HBox.up Hz gW (show G≠rb by omega) (show G≠ib by omega));go_wp2_with fail;refine hK.out _ _ ?_ (fun hHeld=>?_);(· exact G8);clear hK K)
   try simp only[Act.put,sA,sB,sC]
   (refine wpAnyH_ready (rs:=[4]) (by kernel_rfl) (by simp) ?_;refine AllReadyH.cons (o:=⟨some 7,_,_,_,_,_⟩) rfl (fun K hK=>?_) AllReadyH.nil;go_simp;(go_at_call 63;refine((K' kT kS jx gW).mono ?_);rintro e w4 ⟨rfl,KW⟩);go_wp2_with fail)
   try simp only[Act.put,sA,sB,sC]
   exact⟨rfl,rfl,(Vx.trans gW).trans KW.wide⟩
   try simp only[Act.put,sA,sB,sC]
  | some q=>
   obtain⟨v,it'⟩:=q;simp only;go_enter func151,ntmps151;go_wp2_with fail;have K':∀ {w3:World} {A3:Oz} {m3 c3:Nat} {A4:Oz} {n4 c4:Nat},Rd .u8 256 w3 B A3 m3 d→m3≤c3→Rdr w3 rb ib B A4 n4 c4 r' 6 it→Up rb ib W0.drew w3 →
     Calls prog 63 #[.pointer (some ⟨rb,0,none⟩),.agg #[.slice An nn cn,.int .u8 (k:Int)],.slice A3 m3 c3] w3 (zmB rb ib B A4 n4 c4 r' 6 (some (v,it')) w3):=fun {w3 A3 m3 c3 A4 n4 c4} kT kS jx gW=>by
    have:=hT.get w3 rb ib B n4 c4 6 it A4 r' ms An nn cn k d A3 m3 c3 jx Gx (AFTER gW) hk kT kS (by rw[←kT.len];have:=h.rd.len;have:=h.lim;omega) (by omega);rw[ht] at this;exact this
   refine wp_region_held_drew (S:=fun wx=>HBox wx G (.slice An nn cn) (.int .u8 (k:Int))) (by kernel_rfl) (by exact Hz) (fun hHeld=>?_)
   try simp only[Act.put,sA,sB,sC]
   (refine T1K 0 ⟨some 3,_,_,_,_,_⟩ ?_ rfl (by kernel_rfl) (fun _ _ _ h=>h) ?_ (by assumption) ?_;rotate_left 1;(· intro wx Hc;(try dsimp only at Hc);obtain⟨y0,y1,yf⟩:=HBox.all Hc;go_simp;(try with_reducible rfl)))
   try simp only[Act.put,sA,sB,sC]
   (refine T1K 1 ⟨some 4,_,_,_,_,_⟩ ?_ rfl (by kernel_rfl) (fun _ _ _ h=>h) ?_ (by assumption) ?_;rotate_left 1;(· intro wx Hc;(try dsimp only at Hc);obtain⟨y0,y1,yf⟩:=HBox.all Hc;go_simp;(try with_reducible rfl)))
   try simp only[Act.put,sA,sB,sC]
   (refine T1K 2 ⟨some 5,_,_,_,_,_⟩ ?_ rfl (by kernel_rfl) (fun _ _ _ h=>h) ?_ (by assumption) ?_;rotate_left 1;(· intro wx Hc;(try dsimp only at Hc);obtain⟨y0,y1,yf⟩:=HBox.all Hc;go_simp;(try with_reducible rfl)))
   try simp only[Act.put,sA,sB,sC]
   (refine wpAnyH_ready (rs:=[3]) (by kernel_rfl) (by simp) ?_;refine AllReadyH.cons (o:=⟨some 6,_,_,_,_,_⟩) rfl (fun K hK=>?_) AllReadyH.nil;go_simp;(go_at_call 64;refine(zfT Vw k hd).mono ?_;rintro e w3 ⟨A3,m3,c3,A4,n4,c4,rfl,kS,kT,jx,gW⟩;have G8:=HBox.up Hz gW (show G≠rb by omega) (show G≠ib by omega));go_wp2_with fail;refine hK.out _ _ ?_ (fun hHeld=>?_);(· exact G8);clear hK K)
   try simp only[Act.put,sA,sB,sC]
   (refine wpAnyH_ready (rs:=[4]) (by kernel_rfl) (by simp) ?_;refine AllReadyH.cons (o:=⟨some 7,_,_,_,_,_⟩) rfl (fun K hK=>?_) AllReadyH.nil;go_simp;(go_at_call 63;refine((K' kT kS jx gW).mono ?_);rintro e w4 ⟨⟨Av,lv,cv,rfl,Kb,kC,JJ⟩,Q5,Bi,KW⟩;have Q6:=HBox.up G8 KW (show G≠ib by omega) (show G≠ib by omega));go_wp2_with fail;refine hK.out _ _ ?_ (fun hHeld=>?_);(· exact Q6);clear hK K)
   try simp only[Act.put,sA,sB,sC]
   have kY:=Box.up (Box.up yX gW (by omega) (by omega)) KW (by omega) (by omega);obtain⟨z0,z1,z2,z3,zf⟩:=kY.all
   try simp only[Act.put,sA,sB,sC]
   (refine wpAnyH_ready (rs:=[5]) (by kernel_rfl) (by simp) ?_;refine AllReadyH.cons (o:=⟨none,_,_,_,_,_⟩) rfl (fun K hK=>?_) AllReadyH.nil;go_simp;go_wp2_with fail;refine hK.out _ _ ?_ (fun hHeld=>?_);(· exact(HBox.far4 Q6 (by omega) _ _ _ _));clear hK K)
   try simp only[Act.put,sA,sB,sC]
   refine wpAnyH_done (by kernel_rfl) ?_ _
   try simp only[Act.put,sA,sB,sC]
   go_wp2_with fail;refine bodyPost_ret (v:=.agg #[.int .u8 (v.kind:Int),.int .u64 (v.num:Int),.string v.text,.slice Av lv cv]) (by simp[results,results151,go_sem,z0,z1,z2,z3]) rfl ?_;have e3:=gW.size;have e4:W0.drew.heap.size=W0.heap.size:=rfl;exact⟨⟨Av,lv,cv,rfl,Kb,kC,Nw.less (zeY JJ (by omega) _ _ _ _) (by omega)⟩,Q5,⟨A4,n4,c4,Bi.far4 gO (by omega) (by omega) _ _ _ _⟩,zcV ((Vx.trans gW).trans KW.wide) zab _ _ _ _⟩
   try simp only[Act.put,sA,sB,sC]
end Dec
end Go.Proofs.YtbbbanfggcediaaGreatDoor
