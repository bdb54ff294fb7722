/-
  Contracts of the reader's number, data and name. Condition: at most 2^40 bytes are left.
  Contract of the reader's head: a constructor. Condition: at most 2^40 bytes are left.
  Contracts of the reader's value, and of what reads an array's values, given what the reader's told does. Condition: at most 2^40 bytes are left.
  Contracts of what reads the next value of a list or a map, and of an array, given what the reader's told does. Condition: at most 2^40 bytes are left.
-/
import Derived.Test.YtcilmmdmkpnppaaGreatDoorY02
import Derived.Test.YtcilmmdmkpnppaaGreatDoorY07
namespace Go.Proofs.YtcilmmdmkpnppaaGreatDoor.Dec
set_option maxRecDepth 100000
open Go.RowKit Utf Val V
section
variable {w:World} {rb ib B n c sh it:Nat} {A:Option Addr} {L:List Nat}
def TookN (rb ib B sh it x:Nat)(L':List Nat)(w:World)(e:Ending)(w':World):Prop:=
 ∃ A2 n2 c2,e=.returned (.int .u64 (x:Int))∧Rdr w' rb ib B A2 n2 c2 L' sh it∧Up rb ib w w'
theorem number_ok (h:Rdr w rb ib B A n c L sh it)(m:Nat)(hm:m≤L.length) :
  Calls Tryz.prog 153 #[.pointer (some ⟨rb,0,none⟩),.int .u64 (m:Int)] w (TookN rb ib B sh it (tn (L.take m)) (L.drop m) w):=by
 go_enter Tryz.func153,Tryz.ntmps153;go_wp2_with (first
  | (go_at_call 148;refine(take_ok h m hm).mono ?_;rintro e w1 ⟨A1,m1,c1,A2,n2,c2,rfl,hm1,hr1,hR1,hu1⟩)
  | (go_at_call 178;refine(tell_any B A1 m1 c1 _ _ hr1).mono ?_;rintro e w' ⟨⟨p,rfl⟩,rfl⟩))
 go_ret;exact⟨A2,n2,c2,rfl,hR1,hu1⟩
theorem number_no (h:Rdr w rb ib B A n c L sh it)(m:Nat)(hm:L.length < m) :
  Calls Tryz.prog 153 #[.pointer (some ⟨rb,0,none⟩),.int .u64 (m:Int)] w (Fails sh rb ib w):=by
 go_enter Tryz.func153,Tryz.ntmps153;go_wp2_with ((go_at_call 148;refine(take_no h m hm).mono ?_;rintro e w1 ⟨rfl,hu1⟩));exact⟨rfl,rfl,hu1⟩
theorem data_ok (h:Rdr w rb ib B A n c L sh it)(k:Nat){d r:List Nat}(hd:dataD k L=some (d,r)) :
  Calls Tryz.prog 115 #[.pointer (some ⟨rb,0,none⟩),.int .u8 (k:Int)] w (Took rb ib B sh it d r w):=by
 unfold dataD at hd;by_cases hs:sw k=0
 ·rw[if_pos hs] at hd;by_cases hl:lg k≤L.length
  ·rw[if_pos hl] at hd;injection hd with hd
   injection hd with h1 h2
   subst h1;subst h2;have HS:=Lib.hid hs;clear hs;go_enter Tryz.func115,Tryz.ntmps115;go_wp2_with (first
    | (go_at_call 152;refine(size_any k w).mono ?_;rintro e w' ⟨rfl,rfl⟩;rw[HS.out])
    | (go_at_call 154;refine(long_any k _).mono ?_;rintro e w' ⟨rfl,rfl⟩)
    | (go_at_call 148;refine(take_ok h (lg k) hl).mono ?_;rintro e w1 ⟨A1,m1,c1,A2,n2,c2,rfl,hm1,hr1,hR1,hu1⟩))
   go_ret;exact⟨A1,m1,c1,A2,n2,c2,rfl,hm1,hr1,hR1,hu1⟩
  ·rw[if_neg hl] at hd;cases hd
 ·rw[if_neg hs] at hd;by_cases hl:sw k≤L.length
  ·rw[if_pos hl] at hd;by_cases ht:tn (L.take (sw k))≤(L.drop (sw k)).length
   ·rw[if_pos ht] at hd;injection hd with hd
    injection hd with h1 h2
    subst h1;subst h2;have hp:(0:Int) < (sw k:Int):=by omega
    clear hs;go_enter Tryz.func115,Tryz.ntmps115;go_wp2_with (first
     | (go_at_call 152;refine(size_any k w).mono ?_;rintro e w' ⟨rfl,rfl⟩)
     | (go_at_call 153;refine(number_ok h (sw k) hl).mono ?_;rintro e w1 ⟨A1,n1,c1,rfl,hR1,hu1⟩)
     | (go_at_call 148;refine(take_ok hR1 _ ht).mono ?_;rintro e w2 ⟨A2,m2,c2,A3,n3,c3,rfl,hm2,hr2,hR2,hu2⟩))
    go_ret;exact⟨A2,m2,c2,A3,n3,c3,rfl,hm2,hr2,hR2,hu1.trans hu2⟩
   ·rw[if_neg ht] at hd;cases hd
  ·rw[if_neg hl] at hd;cases hd
theorem data_no (h:Rdr w rb ib B A n c L sh it)(k:Nat)(hd:dataD k L=none) :
  Calls Tryz.prog 115 #[.pointer (some ⟨rb,0,none⟩),.int .u8 (k:Int)] w (Fails sh rb ib w):=by
 unfold dataD at hd;by_cases hs:sw k=0
 ·rw[if_pos hs] at hd;by_cases hl:lg k≤L.length
  ·rw[if_pos hl] at hd;cases hd
  ·have HS:=Lib.hid hs;clear hs hd;go_enter Tryz.func115,Tryz.ntmps115;go_wp2_with (first
    | (go_at_call 152;refine(size_any k w).mono ?_;rintro e w' ⟨rfl,rfl⟩;rw[HS.out])
    | (go_at_call 154;refine(long_any k _).mono ?_;rintro e w' ⟨rfl,rfl⟩)
    | (go_at_call 148;refine(take_no h (lg k) (by omega)).mono ?_;rintro e w1 ⟨rfl,hu1⟩))
   exact⟨rfl,rfl,hu1⟩
 ·rw[if_neg hs] at hd;have hp:(0:Int) < (sw k:Int):=by omega
  clear hs;by_cases hl:sw k≤L.length
  ·rw[if_pos hl] at hd;by_cases ht:tn (L.take (sw k))≤(L.drop (sw k)).length
   ·rw[if_pos ht] at hd;cases hd
   ·clear hd;go_enter Tryz.func115,Tryz.ntmps115;go_wp2_with (first
     | (go_at_call 152;refine(size_any k w).mono ?_;rintro e w' ⟨rfl,rfl⟩)
     | (go_at_call 153;refine(number_ok h (sw k) hl).mono ?_;rintro e w1 ⟨A1,n1,c1,rfl,hR1,hu1⟩)
     | (go_at_call 148;refine(take_no hR1 _ (by omega)).mono ?_;rintro e w2 ⟨rfl,hu2⟩))
    exact⟨rfl,rfl,hu1.trans hu2⟩
  ·clear hd;go_enter Tryz.func115,Tryz.ntmps115;go_wp2_with (first
    | (go_at_call 152;refine(size_any k w).mono ?_;rintro e w' ⟨rfl,rfl⟩)
    | (go_at_call 153;refine(number_no h (sw k) (by omega)).mono ?_;rintro e w1 ⟨rfl,hu1⟩))
   exact⟨rfl,rfl,hu1⟩
def Took1 (rb ib B sh it x:Nat)(L':List Nat)(w:World)(e:Ending)(w':World):Prop:=
 ∃ b o c1 A2 n2 c2,e=.returned (.slice (some ⟨b,o,none⟩) 1 c1)∧w'.cell? ⟨b,o,none⟩=some (.int .u8 (x:Int))∧x < 256∧1≤c1∧Rdr w' rb ib B A2 n2 c2 L' sh it∧Up rb ib w w'
theorem take1_ok {x:Nat}{l:List Nat}(h:Rdr w rb ib B A n c (x::l) sh it) :
  Calls Tryz.prog 148 #[.pointer (some ⟨rb,0,none⟩),.int .u64 1] w (Took1 rb ib B sh it x l w):=by
 refine(take_ok h 1 (by simp)).mono ?_;rintro e w1 ⟨A1,m1,c1,A2,n2,c2,rfl,hm1,hr1,hR1,hu1⟩;have h1:m1=1:=by rw[←hr1.len];rfl
 subst h1;obtain⟨b,o,c',rfl,hb,hx,hcc,hc⟩:=hr1.at_ (k:=0) (by omega);simp only[List.take_succ_cons,List.take_zero,List.getElem?_cons_zero,Option.some.injEq] at hx;subst hx;exact⟨b,o,c1,A2,n2,c2,rfl,hc,hcc,hm1,hR1,hu1⟩
theorem take1_no (h:Rdr w rb ib B A n c [] sh it):Calls Tryz.prog 148 #[.pointer (some ⟨rb,0,none⟩),.int .u64 1] w (Fails sh rb ib w):=take_no h 1 (by simp)
def TookV (rb ib B sh it:Nat)(v:V)(L':List Nat)(w:World)(e:Ending)(w':World):Prop:=
 ∃ A2 n2 c2,e=.returned (.agg #[.int .u8 (v.kind:Int),.int .u64 (v.num:Int),.string v.text,.slice none 0 0])∧Rdr w' rb ib B A2 n2 c2 L' sh it∧Up rb ib w w'
theorem up_set4 {a b g:Nat}{w w1:World}(h:Up a b w w1)(hg:w.heap.size≤g)(x y z u:Value):Up a b w ((((w1.setCell ⟨g,0,none⟩ x).setCell ⟨g,1,none⟩ y).setCell ⟨g,2,none⟩ z).setCell ⟨g,3,none⟩ u):=
 have k:∀ (v:World) (j:Nat) (q:Value),Up a b w v→Up a b w (v.setCell ⟨g,j,none⟩ q):=fun v j q hv=>
  ⟨hv.os,hv.tape,hv.output,by simpa using hv.size,fun i hi ha hb=>(Below.heap_setCell v ⟨g,j,none⟩ q i (by simp;omega)).trans (hv.block i hi ha hb)⟩
 k _ _ _ (k _ _ _ (k _ _ _ (k _ _ _ h)))
theorem Rdr.far {g j:Nat}(h:Rdr w rb ib B A n c L sh it)(hB:B≤g)(h1:g≠rb)(h2:g≠ib)(u:Value):Rdr (w.setCell ⟨g,j,none⟩ u) rb ib B A n c L sh it:=
 ⟨by rw[World.cell?_setCell_other _ _ _ _ (fun e=>by injection e with e1;exact h1 e1)];exact h.left,by rw[World.cell?_setCell_other _ _ _ _ (fun e=>by injection e with e1;exact h1 e1)];exact h.short,by rw[World.cell?_setCell_other _ _ _ _ (fun e=>by injection e with e1;exact h1 e1)];exact h.ptr,
  by rw[World.cell?_setCell_other _ _ _ _ (fun e=>by injection e with e1;exact h2 e1)];exact h.item,fun j=>(World.frozen?_setCell _ _ _ _).trans (h.fr j),fun j=>(World.frozen?_setCell _ _ _ _).trans (h.fi j),
  h.rd.keep fun p hp=>by rw[World.cell?_setCell_other _ _ _ _ (fun e=>by rw[←e] at hp;simp at hp;omega)],h.cap,h.lim,h.hr,h.hi,h.ne,by simpa using h.lr,by simpa using h.li⟩
theorem Rdr.far4 {g:Nat}(h:Rdr w rb ib B A n c L sh it)(hB:B≤g)(h1:g≠rb)(h2:g≠ib)(x y z u:Value):Rdr ((((w.setCell ⟨g,0,none⟩ x).setCell ⟨g,1,none⟩ y).setCell ⟨g,2,none⟩ z).setCell ⟨g,3,none⟩ u) rb ib B A n c L sh it:=
 (((h.far hB h1 h2 _).far hB h1 h2 _).far hB h1 h2 _).far hB h1 h2 _
theorem Box.up {a b g:Nat}{w w':World}{x0 x1 x2 x3:Value}(h:Box w g x0 x1 x2 x3)(hu:Up a b w w')(ha:g≠a)(hb:g≠b):Box w' g x0 x1 x2 x3:=(hu.block g h.lt ha hb).trans h
def sel (s:Bool)(sh:Nat):Nat:=if s then sh else 6
set_option maxHeartbeats 1000000 in
theorem name_ok (h:Rdr w rb ib B A n c L sh it){v:V}{r:List Nat}(hv:nameD L=.ok (v,r)) :
  Calls Tryz.prog 149 #[.pointer (some ⟨rb,0,none⟩)] w (TookV rb ib B sh it v r w):=by
 match L,h,hv with
 | [],_,hv=>cases hv
 | k::l,h,hv=>
  simp only[nameD] at hv;by_cases hk:kof k=6∨kof k=21
  ·rw[if_pos hk] at hv;cases hd:dataD k l with
   | none=>rw[hd] at hv;cases hv
   | some q=>
    obtain⟨d,q⟩:=q;rw[hd] at hv;simp only[Except.ok.injEq,Prod.mk.injEq] at hv;obtain⟨rfl,rfl⟩:=hv;have h0:=h.call ((Below.refl _ _).alloc (Nat.le_refl _) (.cells #[.int .u8 0,.int .u64 0,.string ⟨#[]⟩,.slice none 0 0] 44));have hb0:Up rb ib w (w.alloc (.cells #[.int .u8 0,.int .u64 0,.string ⟨#[]⟩,.slice none 0 0] 44)):=Up.of ((Below.refl _ _).alloc (Nat.le_refl _) _);have hbx:=Box.new w (.int .u8 0) (.int .u64 0) (.string ⟨#[]⟩) (.slice none 0 0);have hlr:=h.lr;have hli:=h.li;have hlow:=h.low;rcases hk with hk | hk
    all_goals
     have HK:=Lib.hid hk;clear hk;go_enter Tryz.func149,Tryz.ntmps149;go_wp2_with (first
      | (go_at_call 148;refine(take1_ok h0).mono ?_;rintro e w1 ⟨b1,o1,c1,A2,n2,c2,rfl,hc1,hx,h1c,hR1,hu1⟩)
      | (go_at_call 150;refine(kind_any k _).mono ?_;rintro e w' ⟨rfl,rfl⟩;rw[HK.out])
      | (go_at_call 115;refine(data_ok hR1 k hd).mono ?_;rintro e w2 ⟨A3,m3,c3,A4,n4,c4,rfl,hm3,hr3,hR3,hu3⟩)
      | (go_at_call 175;refine(plain_any (cc:=c3) hr3 hR3.low).mono ?_;rintro e w3 ⟨rfl,hb3⟩;have hbz:=((Box.up (Box.up hbx hu1 (by omega) (by omega)) hu3 (by omega) (by omega)).call hb3);obtain⟨y0,y1,y2,y3,yf⟩:=hbz.all))
     exact bodyPost_ret (v:=.agg #[.int .u8 ((plainV k d).kind:Int),.int .u64 ((plainV k d).num:Int),.string (plainV k d).text,.slice none 0 0]) (by simp[results,Tryz.results149,go_sem,y0,y1,y2,y3]) rfl
      ⟨A4,n4,c4,rfl,(hR3.call hb3).far4 hlow (by omega) (by omega) _ _ _ _,up_set4 (((hb0.trans hu1).trans hu3).call hb3) (Nat.le_refl _) _ _ _ _⟩
  ·rw[if_neg hk] at hv;cases hv
set_option maxHeartbeats 1000000 in
theorem name_no (h:Rdr w rb ib B A n c L sh it){s:Bool}(hv:nameD L=.error s) :
  Calls Tryz.prog 149 #[.pointer (some ⟨rb,0,none⟩)] w (Fails (sel s sh) rb ib w):=by
 have h0:=h.call ((Below.refl _ _).alloc (Nat.le_refl _) (.cells #[.int .u8 0,.int .u64 0,.string ⟨#[]⟩,.slice none 0 0] 44));have hb0:Up rb ib w (w.alloc (.cells #[.int .u8 0,.int .u64 0,.string ⟨#[]⟩,.slice none 0 0] 44)):=Up.of ((Below.refl _ _).alloc (Nat.le_refl _) _)
 match L,h,hv,h0 with
 | [],_,hv,h0=>
  injection hv with hv
  subst hv;go_enter Tryz.func149,Tryz.ntmps149;go_wp2_with ((go_at_call 148;refine(take1_no h0).mono ?_;rintro e w1 ⟨rfl,hu1⟩));exact⟨rfl,rfl,hb0.trans hu1⟩
 | k::l,h,hv,h0=>
  simp only[nameD] at hv;by_cases hk:kof k=6∨kof k=21
  ·rw[if_pos hk] at hv;cases hd:dataD k l with
   | some q=>rw[hd] at hv;cases hv
   | none=>
    rw[hd] at hv;injection hv with hv
    subst hv;rcases hk with hk | hk
    all_goals
     have HK:=Lib.hid hk;clear hk;go_enter Tryz.func149,Tryz.ntmps149;go_wp2_with (first
      | (go_at_call 148;refine(take1_ok h0).mono ?_;rintro e w1 ⟨b1,o1,c1,A2,n2,c2,rfl,hc1,hx,h1c,hR1,hu1⟩)
      | (go_at_call 150;refine(kind_any k _).mono ?_;rintro e w' ⟨rfl,rfl⟩;rw[HK.out])
      | (go_at_call 115;refine(data_no hR1 k hd).mono ?_;rintro e w2 ⟨rfl,hu3⟩))
     exact⟨rfl,rfl,(hb0.trans hu1).trans hu3⟩
  ·rw[if_neg hk] at hv;injection hv with hv
   subst hv;have d6:((kof k:Int) != 6)=true:=by simp;omega
   have d21:((kof k:Int) != 21)=true:=by simp;omega
   clear hk;go_enter Tryz.func149,Tryz.ntmps149;go_wp2_with (first
    | (go_at_call 148;refine(take1_ok h0).mono ?_;rintro e w1 ⟨b1,o1,c1,A2,n2,c2,rfl,hc1,hx,h1c,hR1,hu1⟩)
    | (go_at_call 150;refine(kind_any k _).mono ?_;rintro e w' ⟨rfl,rfl⟩))
   exact⟨rfl,rfl,hb0.trans hu1⟩
end
end Go.Proofs.YtcilmmdmkpnppaaGreatDoor.Dec
namespace Go.Proofs.YtcilmmdmkpnppaaGreatDoor.Dec
set_option maxRecDepth 100000
open Go.RowKit Utf Val V
theorem Rdr.keep {w w':World}{rb ib B n c sh it:Nat}{A:Option Addr}{L:List Nat}(h:Rdr w rb ib B A n c L sh it)(hk:∀ i,(i=rb∨i=ib∨i < B)→w'.heap[i]? = w.heap[i]?)(hs:w.heap.size≤w'.heap.size):Rdr w' rb ib B A n c L sh it:=by
 have c1:∀ j,w'.cell? ⟨rb,j,none⟩=w.cell? ⟨rb,j,none⟩:=fun j=>World.cell?_of_block (w:=w) (hk rb (.inl rfl));have c2:∀ j,w'.cell? ⟨ib,j,none⟩=w.cell? ⟨ib,j,none⟩:=fun j=>World.cell?_of_block (w:=w) (hk ib (.inr (.inl rfl)));exact⟨(c1 0).trans h.left,(c1 1).trans h.short,(c1 2).trans h.ptr,(c2 0).trans h.item,fun j=>(World.frozen?_of_block (w:=w) (hk rb (.inl rfl))).trans (h.fr j),fun j=>(World.frozen?_of_block (w:=w) (hk ib (.inr (.inl rfl)))).trans (h.fi j),
  h.rd.keep fun p hp=>World.cell?_of_block (w:=w) (hk p.block (.inr (.inr hp))),h.cap,h.lim,h.hr,h.hi,h.ne,Nat.lt_of_lt_of_le h.lr hs,Nat.lt_of_lt_of_le h.li hs⟩
theorem Up.grown {a b:Nat}{w w1 w':World}{r:Option Nat}(h:Up a b w w1)(hg:w1.grownBy w' r)(hr:∀ k,r=some k→w.heap.size≤k):Up a b w w':=
 ⟨hg.os.trans h.os,hg.tape.trans h.tape,hg.output.trans h.output,Nat.le_trans h.size hg.size,fun i hi ha hb=>(hg.block i (Nat.lt_of_lt_of_le hi h.size) (fun e=>by have:=hr i e.symm;omega)).trans (h.block i hi ha hb)⟩
theorem Up.far {a b g:Nat}{w w1:World}(h:Up a b w w1)(hg:w.heap.size≤g)(j:Nat)(u:Value):Up a b w (w1.setCell ⟨g,j,none⟩ u):=
 ⟨h.os,h.tape,h.output,by simpa using h.size,fun i hi ha hb=>(Below.heap_setCell w1 ⟨g,j,none⟩ u i (by simp;omega)).trans (h.block i hi ha hb)⟩
theorem own_same {w w':World}{base:Nat}{e:TypeId}{size n:Nat}{v:Value}{xs:List Value}(h:w.ownsRow base e size v n xs)(hk:∀ g,v.ownBlock=some g→w'.heap[g]? = w.heap[g]?):w'.ownsRow base e size v n xs:=by
 refine⟨h.1,?_⟩;rcases h.2 with hn | ⟨g,cap,cur,hv,hg,hb,hrest⟩
 ·exact .inl hn
 ·exact .inr ⟨g,cap,cur,hv,hg,(hk g (by rw[hv];rfl)).trans hb,hrest⟩
theorem _root_.Go.Proofs.YtcilmmdmkpnppaaGreatDoor.Val.CS.keep {B:Nat}{wr w':World}{A:Option Addr}{n c:Nat}{done:List V}{xs:List Value}(h:CS B wr A n c done xs)(hk:∀ i,B≤i→i < wr.heap.size→w'.heap[i]? = wr.heap[i]?)(hs:wr.heap.size≤w'.heap.size):CS B w' A n c done xs:=
 ⟨own_same h.own (fun g hg=>hk g (h.own.lt g hg).1 (h.own.lt g hg).2),(h.cells.keep fun _ hi=>hk _ hi.1 hi.2.1).mono fun _ hi=>⟨hi.1,Nat.lt_of_lt_of_le hi.2.1 hs,hi.2.2⟩⟩
theorem _root_.Go.Proofs.YtcilmmdmkpnppaaGreatDoor.Val.CS.up {B a b:Nat}{wr w':World}{A:Option Addr}{n c:Nat}{done:List V}{xs:List Value}(h:CS B wr A n c done xs)(hu:Up a b wr w')(ha:a < B)(hb:b < B):CS B w' A n c done xs:=
 h.keep (fun i h1 h2=>hu.block i h2 (by omega) (by omega)) hu.size
theorem _root_.Go.Proofs.YtcilmmdmkpnppaaGreatDoor.Val.CS.far {B g j:Nat}{wr:World}{A:Option Addr}{n c:Nat}{done:List V}{xs:List Value}(h:CS B wr A n c done xs)(hg:g < B)(u:Value):CS B (wr.setCell ⟨g,j,none⟩ u) A n c done xs:=
 h.keep (fun i h1 _=>Below.heap_setCell wr ⟨g,j,none⟩ u i (by simp;omega)) (by simp)
def HBox (w:World)(g:Nat)(x0 x1:Value):Prop:=w.heap[g]? = some (.cells #[x0,x1] 134 (0,0))
section
variable {w w':World} {g:Nat} {x0 x1:Value}
theorem HBox.lt (h:HBox w g x0 x1):g < w.heap.size:=(Array.getElem?_eq_some_iff.1 h).1
theorem HBox.keep (h:HBox w g x0 x1)(e:w'.heap[g]? = w.heap[g]?):HBox w' g x0 x1:=e.trans h
theorem HBox.all (h:HBox w g x0 x1):w.cell? ⟨g,0,none⟩=some x0∧w.cell? ⟨g,1,none⟩=some x1∧∀ j,w.frozen? ⟨g,j,none⟩=false:=by
 unfold HBox at h;refine⟨?_,?_,fun j=>?_⟩
 ·simp[World.cell?,h]
 ·simp[World.cell?,h]
 ·simp[World.frozen?,h]
theorem HBox.set0 (h:HBox w g x0 x1)(u:Value):HBox (w.setCell ⟨g,0,none⟩ u) g u x1:=by
 unfold HBox at h ⊢;simp[World.setCell,Array.getElem?_modify,h]
theorem HBox.set1 (h:HBox w g x0 x1)(u:Value):HBox (w.setCell ⟨g,1,none⟩ u) g x0 u:=by
 unfold HBox at h ⊢;simp[World.setCell,Array.getElem?_modify,h]
end
def pre (all:List V):Except Bool (List V×Nat×List Nat)→Except Bool (List V×Nat×List Nat)
 | .error s=>.error s
 | .ok (ns,k,r)=>.ok (all++ns,k,r)
def HeadR (rb ib B sh it:Nat)(R:Except Bool (List V×Nat×List Nat))(w:World)(e:Ending)(w':World):Prop:=
 match R with
 | .error s=>Fails (sel s sh) rb ib w e w'
 | .ok (ns,k,r)=>∃ An nn cn A2 n2 c2,e=.returned (.agg #[.slice An nn cn,.int .u8 (k:Int)])∧Nw w.heap.size w' (ns.take 16) An nn cn∧Rdr w' rb ib B A2 n2 c2 r sh it∧Up rb ib w w'
structure HS (rb ib B sh it S:Nat) (w wr:World) (all:List V) (L:List Nat) (An:Option Addr) (nn cn code:Nat) (xs:List Value):Prop where
 box:HBox wr (S+1) (.slice An nn cn) (.int .u8 (code:Int))
 box2:HBox wr S (.slice none 0 0) (.int .u8 0)
 row:CS (S+2) wr An nn cn (all.take 16) xs
 rdr:∃ A n c,Rdr wr rb ib B A n c L sh it
 up:Up rb ib w wr
 sz:S=w.heap.size
 low:rb < S∧ib < S
theorem take_more (all:List V)(v:V):(all++[v]).take 16=if (all.take 16).length < 16 then all.take 16++[v] else all.take 16:=by
 rw[List.take_append,List.length_take];by_cases h:all.length < 16
 ·rw[if_pos (by omega)]
  congr 1
  rw[List.take_of_length_le];simp;omega
 ·have e:16 - all.length=0:=by omega
  rw[if_neg (by omega),e];simp
theorem pre_nil (R:Except Bool (List V×Nat×List Nat)):pre [] R=R:=by
 cases R with
 | error s=>rfl
 | ok p=>obtain⟨a,b,c⟩:=p;rfl
theorem pre_snoc (all:List V)(v:V)(R:Except Bool (List V×Nat×List Nat)):pre (all++[v]) R=pre all (match R with | .error s=>.error s | .ok (ns,k,r)=>.ok (v::ns,k,r)):=by
 cases R with
 | error s=>rfl
 | ok p=>obtain⟨a,b,c⟩:=p;simp[pre]
theorem sgw_lt (X k:Nat)(hX:X < 18446744073709551616):sgw X k < 18446744073709551616:=by
 unfold sgw
 split
 ·rename_i h;obtain⟨h1,h2⟩:=h;have hp:(256:Nat) ^ k≤256 ^ 7:=Nat.pow_le_pow_right (by omega) h2;have hq:0 < (256:Nat) ^ k:=Nat.pow_pos (by omega);have hm:=Nat.mod_lt X hq
  split<;>omega
 ·exact hX
structure Fl (v:V):Prop where
 kids:v.kids=[]
 kind:v.kind < 256
 num:v.num < 18446744073709551616
theorem plain_fl (c:Nat)(d:List Nat)(hd:∀ x∈d,x < 256):Fl (plainV c d):=by
 have h1:=tn_lt d hd;have h2:=sgw_lt (tn d) d.length h1;have h3:=kof_le c;refine⟨plain_kids c d,?_,?_⟩
 ·unfold plainV
  (repeat' split)<;>simp only[V.kind]<;>omega
 ·unfold plainV
  (repeat' split)<;>simp only[V.num]<;>omega
theorem data_parts {c:Nat}{l d r:List Nat}(h:dataD c l=some (d,r)):∃ p,l=p++d++r:=by
 unfold dataD at h;by_cases h0:sw c=0
 ·rw[if_pos h0] at h;by_cases h1:lg c≤l.length
  ·rw[if_pos h1] at h;injection h with h
   injection h with e1 e2
   subst e1 e2;exact⟨[],by simp⟩
  ·rw[if_neg h1] at h;cases h
 ·rw[if_neg h0] at h;by_cases h1:sw c≤l.length
  ·rw[if_pos h1] at h;by_cases h2:tn (l.take (sw c))≤(l.drop (sw c)).length
   ·rw[if_pos h2] at h;injection h with h
    injection h with e1 e2
    subst e1 e2;exact⟨l.take (sw c),by rw[List.append_assoc,List.take_append_drop,List.take_append_drop]⟩
   ·rw[if_neg h2] at h;cases h
  ·rw[if_neg h1] at h;cases h
theorem data_byte {c:Nat}{l d r:List Nat}(h:dataD c l=some (d,r))(hl:∀ x∈l,x < 256):(∀ x∈d,x < 256)∧(∀ x∈r,x < 256)∧d.length+r.length≤l.length:=by
 obtain⟨p,e⟩:=data_parts h;subst e;exact⟨fun x hx=>hl x (by simp[hx]),fun x hx=>hl x (by simp[hx]),by simp only[List.length_append];omega⟩
theorem name_fl {l r:List Nat}{v:V}(h:nameD l=.ok (v,r))(hl:∀ x∈l,x < 256):Fl v∧(∀ x∈r,x < 256)∧r.length < l.length:=by
 cases l with
 | nil=>cases h
 | cons c l=>
  simp only[nameD] at h
  split at h
  ·cases hd:dataD c l with
   | none=>rw[hd] at h;cases h
   | some q=>
    obtain⟨d,q⟩:=q;rw[hd] at h;simp only[Except.ok.injEq,Prod.mk.injEq] at h;obtain⟨rfl,rfl⟩:=h;obtain⟨h1,h2,h3⟩:=data_byte hd fun x hx=>hl x (by simp[hx]);exact⟨plain_fl c d h1,h2,by simp only[List.length_cons];omega⟩
  ·cases h
section
variable {w wr w1 w2:World} {rb ib B sh it S nn cn code k:Nat} {all:List V} {l r:List Nat} {An:Option Addr} {xs:List Value}
theorem HS.bB (h:HS rb ib B sh it S w wr all l An nn cn code xs):B≤S:=by
 obtain⟨A,n,c,hr⟩:=h.rdr;have:=hr.hr;have:=h.low;omega
theorem HS.named (h:HS rb ib B sh it S w wr all l An nn cn code xs)(hu1:Up rb ib wr w1)(hu2:Up rb ib (w1.setCell ⟨S+1,1,none⟩ (.int .u8 (k:Int))) w2)(hR:∃ A n c,Rdr w2 rb ib B A n c r sh it)(o:Obj) :
  HS rb ib B sh it S w (w2.alloc o) all r An nn cn k xs:=by
 have hl:=h.low;have hs1:=hu1.size;have hs2:=hu2.size;have hsz:=h.sz;have hb1:=h.box.lt;simp at hs2;have e1:(w2.alloc o).heap[S+1]? = (w1.setCell ⟨S+1,1,none⟩ (.int .u8 (k:Int))).heap[S+1]?:=by
  rw[Below.heap_alloc _ _ _ (by omega)];exact hu2.block _ (by simp;omega) (by omega) (by omega)
 have e2:(w2.alloc o).heap[S]? = wr.heap[S]?:=by
  rw[Below.heap_alloc _ _ _ (by omega),hu2.block _ (by simp;omega) (by omega) (by omega),Below.heap_setCell _ _ _ _ (by simp)];exact hu1.block _ (by omega) (by omega) (by omega)
 refine⟨((h.box.keep (hu1.block _ hb1 (by omega) (by omega))).set1 _).keep e1,h.box2.keep e2,?_,?_,?_,hsz,hl⟩
 ·exact(((h.row.up hu1 (by omega) (by omega)).far (by omega) _).up hu2 (by omega) (by omega)).call ((Below.refl _ _).alloc (Nat.le_refl _) o)
 ·obtain⟨A,n,c,hr⟩:=hR;exact⟨A,n,c,hr.call ((Below.refl _ _).alloc (Nat.le_refl _) o)⟩
 ·exact(((h.up.trans hu1).far (by omega) _ _).trans hu2).call ((Below.refl _ _).alloc (Nat.le_refl _) o)
theorem HS.skip (h:HS rb ib B sh it S w wr all l An nn cn code xs)(v:V)(hn:¬ nn < 16):HS rb ib B sh it S w wr (all++[v]) l An nn cn code xs:=
 ⟨h.box,h.box2,h.row.cast (by rw[take_more,if_neg (by rw[h.row.len];exact hn)]),h.rdr,h.up,h.sz,h.low⟩
theorem HS.more (h:HS rb ib B sh it S w wr all l An nn cn code xs){v:V}(hv:Fl v)(hn:nn < 16){g cap:Nat}{w9:World}(o:Obj)
  (hown:w9.ownsRow (S+2) 44 4 (.slice (some ⟨g,0,none⟩) (nn+1) cap) (nn+1) (xs++[.int .u8 (v.kind:Int),.int .u64 (v.num:Int),.string v.text,.slice none 0 0])) (hg:(wr.alloc o).grownBy w9 (Value.slice An nn cn).ownBlock) (hat:(Value.slice An nn cn).ownBlock=some g∨wr.heap.size≤g) :
  HS rb ib B sh it S w (w9.setCell ⟨S+1,0,none⟩ (.slice (some ⟨g,0,none⟩) (nn+1) cap)) (all++[v]) l (some ⟨g,0,none⟩) (nn+1) cap code (xs++[.int .u8 (v.kind:Int),.int .u64 (v.num:Int),.string v.text,.slice none 0 0]):=by
 obtain⟨vk,vn,vt,vks⟩:=v;obtain⟨hk1,hk2,hk3⟩:=hv;simp only[V.kids] at hk1;subst hk1;have hl:=h.low;have hsz:=h.sz;have hb1:=h.box.lt;have hrow:=h.row.own.lt;have hold:∀ i,i < S+2→w9.heap[i]? = wr.heap[i]?:=fun i hi=>by
  rw[hg.block i (by simp;omega) (fun e=>by have:=hrow i e.symm;omega)];exact Below.heap_alloc _ _ _ (by omega)
 have hs9:=hg.size;simp at hs9;have hB:=h.bB;have hp:=h.row.push (k:=vk) (m:=vn) (t:=vt) (ks:=[]) (A':=none) (l':=0) (c':=0) hk2 hk3 ⟨rfl,Nat.le_refl _,fun h=>absurd h (by omega)⟩ o rfl hown hg hat;refine⟨(h.box.keep (hold _ (by omega))).set0 _,(h.box2.keep (hold _ (by omega))).keep (Below.heap_setCell _ _ _ _ (by simp)),?_,?_,?_,hsz,hl⟩
 ·refine(hp.far (by omega) _).cast ?_;rw[take_more,if_pos (by rw[h.row.len];exact hn)]
 ·obtain⟨A,n,c,hr⟩:=h.rdr;refine⟨A,n,c,(hr.keep (fun i hi=>hold i (by have:=hr.hr;rcases hi with rfl | rfl | hi<;>omega)) (by omega)).far (by omega) (by omega) (by omega) _⟩
 ·exact((h.up.call ((Below.refl _ _).alloc (Nat.le_refl _) o)).grown hg (fun i e=>by have:=hrow i e;omega)).far (by omega) _ _
end
set_option maxHeartbeats 2000000 in
theorem head_any {w:World}{rb ib B n c sh it:Nat}{A:Option Addr}{L:List Nat}(h:Rdr w rb ib B A n c L sh it) :
  Calls Tryz.prog 113 #[.pointer (some ⟨rb,0,none⟩)] w (HeadR rb ib B sh it (headD L) w):=by
 unfold headD;obtain⟨W0,hW0⟩:∃ W0,W0=(w.alloc (.cells #[.slice none 0 0,.int .u8 0] 134)).alloc (.cells #[.slice none 0 0,.int .u8 0] 134):=⟨_,rfl⟩;have hB0:Below w.heap.size w W0:=by rw[hW0];exact((Below.refl _ _).alloc (Nat.le_refl _) _).alloc (by simp) _
 have hH:HS rb ib B sh it w.heap.size w W0 [] L none 0 0 0 []:=
  ⟨by rw[hW0];have:=heap_alloc_new (w.alloc (.cells #[.slice none 0 0,.int .u8 0] 134)) (.cells #[.slice none 0 0,.int .u8 0] 134);simpa [HBox] using this,
   by rw[hW0];exact(Below.heap_alloc _ _ _ (by simp)).trans (heap_alloc_new w _),CS.nil _ _,⟨A,n,c,h.call hB0⟩,Up.of hB0,rfl,h.lr,h.li⟩
 have hR0:headN (L.length+1) L=pre [] (headN (L.length+1) L):=(pre_nil _).symm;obtain⟨R,hR⟩:∃ R,headN (L.length+1) L=R:=⟨_,rfl⟩;rw[hR];rw[hR] at hR0;have HR0:=Lib.hid hR0;have HR:=Lib.hid hR;clear hR0 hR;go_enter Tryz.func113,Tryz.ntmps113;go_wp2;rw[←hW0];have HW:=Lib.hid hW0;clear hW0;go_loopg [4] (L.length+1) (fun g s4 wr=>∃ all L' An nn cn code xs,L'.length < g∧HS rb ib B sh it w.heap.size w wr all L' An nn cn code xs∧R=pre all (headN g L'))
 case atStart=>exact⟨[],L,_,_,_,_,_,by omega,hH,by rw[HR0.out,HR.out]⟩
 case round=>
  obtain⟨all,L',An,nn,cn,code,xs,hlt,hS,hRL⟩:=hrel;obtain⟨f,rfl⟩:∃ f,gk=f+1:=⟨gk - 1,by omega⟩;obtain⟨A1,n1,c1,hr1⟩:=hS.rdr;obtain⟨x0,x1,xf⟩:=hS.box.all;have hrb:=hS.low;cases L' with
  | nil=>
   have hRe:R=.error true:=by rw[hRL];rfl
   subst hRe;clear hRL;go_wp2_with ((go_at_call 148;refine(take1_no hr1).mono ?_;rintro e w1 ⟨rfl,hu1⟩));exact⟨rfl,rfl,hS.up.trans hu1⟩
  | cons k l=>
   have hl:l.length < f:=by simpa using hlt
   have hbx:∀ w1,Up rb ib wr w1→HBox w1 (w.heap.size+1) (.slice An nn cn) (.int .u8 (code:Int)):=fun w1 hu=>hS.box.keep (hu.block _ hS.box.lt (by omega) (by omega));have hRs:∀ w1 A2 n2 c2,Rdr w1 rb ib B A2 n2 c2 l sh it→Rdr (w1.setCell ⟨w.heap.size+1,1,none⟩ (.int .u8 (k:Int))) rb ib B A2 n2 c2 l sh it:=fun w1 A2 n2 c2 hr=>hr.far (by have:=h.low;omega) (by omega) (by omega) _;by_cases hk0:k=0
   ·have d0:((k:Int) != 0)=false:=by simp;omega
    have hRk:R=pre all (match nameD l with
     | .error s=>.error s
     | .ok (v,r)=>match headN f r with
      | .error s=>.error s
      | .ok (ns,c',r')=>.ok (v::ns,c',r')):=by rw[hRL];simp only[headN,if_pos hk0];rfl
    clear hRL hk0;cases hn:nameD l with
    | error s=>
     rw[hn] at hRk;have hRe:R=.error s:=hRk;subst hRe;clear hRk;go_wp2_with (first
      | (go_at_call 148;refine(take1_ok hr1).mono ?_;rintro e w1 ⟨b1,o1,c1,A2,n2,c2,rfl,hc1,hx,h1c,hR1,hu1⟩;have hb1:=hbx w1 hu1;obtain⟨y0,y1,yf⟩:=hb1.all;have hR1s:=hRs _ _ _ _ hR1)
      | (go_at_call 149;refine(name_no hR1s hn).mono ?_;rintro e w2 ⟨rfl,hu2⟩))
     exact⟨rfl,rfl,((hS.up.trans hu1).far (by omega) _ _).trans hu2⟩
    | ok q=>
     obtain⟨v,r⟩:=q;rw[hn] at hRk;obtain⟨hfl,_,hrl⟩:=name_fl hn fun x hx=>hr1.rd.lim x (by simp[hx]);have HRK:Hid (R=pre (all++[v]) (headN f r)):=Lib.hid (by rw[pre_snoc];exact hRk);have hnl:=hS.row.own.lt;have hncap:=own_cap hS.row.own;have hnn:nn≤16:=by have:=hS.row.len;rw[List.length_take] at this;omega
     have HHS:=Lib.hid hS;obtain⟨i0,hi,hz0,hz1,hz2⟩:=info_parts infoV;clear hRk hS;by_cases hn16:nn < 16
     ·have d16:((nn:Int) < 16):=by omega
      go_wp2_with (first
       | (go_at_call 148;refine(take1_ok hr1).mono ?_;rintro e w1 ⟨b1,o1,c1,A2,n2,c2,rfl,hc1,hx,h1c,hR1,hu1⟩;have hb1:=hbx w1 hu1;obtain⟨y0,y1,yf⟩:=hb1.all;have hR1s:=hRs _ _ _ _ hR1)
       | (go_at_call 149;refine(name_ok hR1s hn).mono ?_;rintro e w2 ⟨A3,n3,c3,rfl,hR2,hu2⟩;have H3:=HHS.out.named hu1 hu2 ⟨A3,n3,c3,hR2⟩ (.cells #[.int .u8 (v.kind:Int),.int .u64 (v.num:Int),.string v.text,.slice none 0 0] 44);obtain⟨z0,z1,zf⟩:=H3.box.all;have hvb:=Box.new w2 (.int .u8 (v.kind:Int)) (.int .u64 (v.num:Int)) (.string v.text) (.slice none 0 0);obtain⟨v0,v1,v2,v3,vf⟩:=hvb.all;have hs2:w.heap.size+1 < w2.heap.size+1:=(by have:=H3.box.lt;simpa using this))
       | (at_builtin;refine wpList_append_lies _ rfl _ _ 42 rfl (w.heap.size+2) 44 i0 _ 4 56 Tryz.underlying42 hi hz0 hz1 hz2 rfl (by omega) _ _ _ rfl (H3.row.own.alloc _) ⟨w2.heap.size+1,0,none⟩ 1 1 [.int .u8 (v.kind:Int),.int .u64 (v.num:Int),.string v.text,.slice none 0 0] rfl rfl (news4 _ _ _ _ _ _ _ (by simp)) (fun u hu=>(by simp at hu;rcases hu with rfl | rfl | rfl | rfl<;>rfl)) (by omega) (by unfold maxLen;omega) (by omega) (by simp;omega) _ rfl ?_;intro g9 cap9 w9 hown9 hgrow9 hat9 _;have hy9:=HBox.keep (w':=w9) H3.box ((hgrow9.block _ (by have:=H3.box.lt;simp;omega) (fun e=>by have:=H3.row.own.lt _ e.symm;omega)).trans (Below.heap_alloc _ _ _ H3.box.lt));obtain⟨q0,q1,qf⟩:=hy9.all))
      go_roundg f
      case measure=>omega
      case rel=>exact⟨all++[v],r,_,_,_,_,_,by omega,H3.more hfl hn16 _ hown9 hgrow9 (hat9.imp id fun h=>by simp at h;simp;omega),HRK.out⟩
     ·have d16:¬ ((nn:Int) < 16):=by omega
      go_wp2_with (first
       | (go_at_call 148;refine(take1_ok hr1).mono ?_;rintro e w1 ⟨b1,o1,c1,A2,n2,c2,rfl,hc1,hx,h1c,hR1,hu1⟩;have hb1:=hbx w1 hu1;obtain⟨y0,y1,yf⟩:=hb1.all;have hR1s:=hRs _ _ _ _ hR1)
       | (go_at_call 149;refine(name_ok hR1s hn).mono ?_;rintro e w2 ⟨A3,n3,c3,rfl,hR2,hu2⟩;have H3:=HHS.out.named hu1 hu2 ⟨A3,n3,c3,hR2⟩ (.cells #[.int .u8 (v.kind:Int),.int .u64 (v.num:Int),.string v.text,.slice none 0 0] 44);obtain⟨z0,z1,zf⟩:=H3.box.all))
      go_roundg f
      case measure=>omega
      case rel=>exact⟨all++[v],r,_,_,_,_,_,by omega,H3.skip v hn16,HRK.out⟩
   ·have d0:((k:Int) != 0)=true:=by simp;omega
    by_cases hk:kof k=0
    ·have hRe:R=.error false:=by rw[hRL];simp only[headN,if_neg hk0,if_pos hk];rfl
     subst hRe;have HK:=Lib.hid hk;clear hRL hk hk0;go_wp2_with (first
      | (go_at_call 148;refine(take1_ok hr1).mono ?_;rintro e w1 ⟨b1,o1,c1,A2,n2,c2,rfl,hc1,hx,h1c,hR1,hu1⟩;have hb1:=hbx w1 hu1;obtain⟨y0,y1,yf⟩:=hb1.all)
      | (go_at_call 150;refine(kind_any k _).mono ?_;rintro e w' ⟨rfl,rfl⟩;rw[HK.out]))
     exact⟨rfl,rfl,(hS.up.trans hu1).far (by omega) _ _⟩
    ·have hRe:R=.ok (all,k,l):=by rw[hRL];simp only[headN,if_neg hk0,if_neg hk,pre,List.append_nil]
     subst hRe;have dk:((kof k:Int)==0)=false:=by simp;omega
     clear hRL hk hk0;go_wp2_with (first
      | (go_at_call 148;refine(take1_ok hr1).mono ?_;rintro e w1 ⟨b1,o1,c1,A2,n2,c2,rfl,hc1,hx,h1c,hR1,hu1⟩;have hb1:=hbx w1 hu1;obtain⟨y0,y1,yf⟩:=hb1.all;have hb2:HBox w1 w.heap.size (.slice none 0 0) (.int .u8 0):=hS.box2.keep (hu1.block _ hS.box2.lt (by omega) (by omega));obtain⟨z0,z1,zf⟩:=hb2.all)
      | (go_at_call 150;refine(kind_any k _).mono ?_;rintro e w' ⟨rfl,rfl⟩))
     refine bodyPost_ret (v:=.agg #[.slice An nn cn,.int .u8 (k:Int)]) (by simp[results,Tryz.results113,go_sem,z0,z1]) rfl ?_;have hBS:=hS.bB;have hss:=hS.sz;exact⟨An,nn,cn,A2,n2,c2,rfl,((((hS.row.up hu1 (by omega) (by omega)).far (by omega) _).far (by omega) _).far (by omega) _).nw.less (by omega),((hR1.far (by omega) (by omega) (by omega) _).far (by omega) (by omega) (by omega) _).far (by omega) (by omega) (by omega) _,(((hS.up.trans hu1).far (by omega) _ _).far (by omega) _ _).far (by omega) _ _⟩
end Go.Proofs.YtcilmmdmkpnppaaGreatDoor.Dec
namespace Go.Proofs.YtcilmmdmkpnppaaGreatDoor.Dec
set_option maxRecDepth 100000
open Go.RowKit Utf Val V
def GotV (S:Nat)(v:V)(e:Ending)(w':World):Prop:=
 ∃ Av lv cv,e=.returned (.agg #[.int .u8 (v.kind:Int),.int .u64 (v.num:Int),.string v.text,.slice Av lv cv])∧v.kind < 256∧v.num < 18446744073709551616∧Nw S w' v.kids Av lv cv
structure Nms (w:World) (rb ib:Nat) (ns:List V) (An:Option Addr) (nn cn:Nat):Prop where
 kids:Val.Kids true w (fun i=>i < w.heap.size∧i≠rb∧i≠ib) ns An nn cn
 fl:∀ v∈ns,Fl v
 few:nn≤16
def ToldR (rb ib B:Nat)(A:Option Addr)(n c:Nat)(L:List Nat)(sh:Nat)(R:Option (V×Nat))(w:World)(e:Ending)(w':World):Prop:=
 match R with
 | none=>Fails 6 ib ib w e w'
 | some (v,it')=>GotV w.heap.size v e w'∧it'≤1024∧Rdr w' rb ib B A n c L sh it'∧Up ib ib w w'
structure Told (F:Nat):Prop where
 get:∀ (w:World) (rb ib B n c sh it:Nat) (A:Option Addr) (L:List Nat) (ns:List V) (An:Option Addr) (nn cn code:Nat) (d:List Nat) (Ad:Option Addr) (nd cd:Nat),
  Rdr w rb ib B A n c L sh it→it≤1024→Nms w rb ib ns An nn cn→code < 256→Rd .u8 256 w B Ad nd d→nd≤cd→nd≤1099511627776→d.length < F →
  Calls Tryz.prog 114 #[.pointer (some ⟨rb,0,none⟩),.agg #[.slice An nn cn,.int .u8 (code:Int)],.slice Ad nd cd] w (ToldR rb ib B A n c L sh (toldN F it ns code d) w)
def valD (tl:Nat→List V→Nat→List Nat→Option (V×Nat))(it:Nat)(l:List Nat):Except Bool (V×Nat×List Nat):=
 match headD l with
 | .error s=>.error s
 | .ok (ns,c,r)=>match dataD c r with
  | none=>.error true
  | some (d,r')=>match tl it (ns.take 16) c d with
   | none=>.error false
   | some (v,it')=>.ok (v,it',r')
theorem step_val (tl:Nat→List V→Nat→List Nat→Option (V×Nat))(it:Nat)(l:List Nat):stepV tl it l=(match valD tl it l with | .error _=>none | .ok x=>some x):=by
 unfold stepV valD;cases headD l with
 | error s=>rfl
 | ok p=>
  obtain⟨ns,c,r⟩:=p;simp only;cases dataD c r with
  | none=>rfl
  | some q=>
   obtain⟨d,r'⟩:=q;simp only;cases tl it (ns.take 16) c d with
   | none=>rfl
   | some q=>rfl
def ValR (rb ib B sh:Nat)(R:Except Bool (V×Nat×List Nat))(w:World)(e:Ending)(w':World):Prop:=
 match R with
 | .error s=>Fails (sel s sh) rb ib w e w'
 | .ok (v,it',r)=>GotV w.heap.size v e w'∧it'≤1024∧(∃ A2 n2 c2,Rdr w' rb ib B A2 n2 c2 r sh it')∧Up rb ib w w'
def KidR (rb ib B:Nat)(R:Option (V×Nat×List Nat))(w:World)(e:Ending)(w':World):Prop:=
 match R with
 | none=>Fails 6 rb ib w e w'
 | some (v,it',r)=>GotV w.heap.size v e w'∧it'≤1024∧(∃ A2 n2 c2,Rdr w' rb ib B A2 n2 c2 r 6 it')∧Up rb ib w w'
theorem HBox.new (w:World)(x0 x1:Value):HBox (w.alloc (.cells #[x0,x1] 134)) w.heap.size x0 x1:=heap_alloc_new w _
theorem HBox.up {a b g:Nat}{w w':World}{x0 x1:Value}(h:HBox w g x0 x1)(hu:Up a b w w')(ha:g≠a)(hb:g≠b):HBox w' g x0 x1:=h.keep (hu.block g h.lt ha hb)
theorem HBox.far4 {g g':Nat}{w:World}{x0 x1:Value}(h:HBox w g x0 x1)(hp:g≠g')(a b c d:Value):HBox ((((w.setCell ⟨g',0,none⟩ a).setCell ⟨g',1,none⟩ b).setCell ⟨g',2,none⟩ c).setCell ⟨g',3,none⟩ d) g x0 x1:=
 (((h.keep (Below.heap_setCell _ _ _ _ hp)).keep (Below.heap_setCell _ _ _ _ hp)).keep (Below.heap_setCell _ _ _ _ hp)).keep (Below.heap_setCell _ _ _ _ hp)
theorem heap_four (w:World)(g:Nat)(a b c d:Value)(i:Nat)(hi:i≠g):((((w.setCell ⟨g,0,none⟩ a).setCell ⟨g,1,none⟩ b).setCell ⟨g,2,none⟩ c).setCell ⟨g,3,none⟩ d).heap[i]? = w.heap[i]?:=by
 rw[Below.heap_setCell _ _ _ _ hi,Below.heap_setCell _ _ _ _ hi,Below.heap_setCell _ _ _ _ hi,Below.heap_setCell _ _ _ _ hi]
theorem size_four (w:World)(g:Nat)(a b c d:Value):((((w.setCell ⟨g,0,none⟩ a).setCell ⟨g,1,none⟩ b).setCell ⟨g,2,none⟩ c).setCell ⟨g,3,none⟩ d).heap.size=w.heap.size:=by simp
theorem Nw_four {S g:Nat}{w:World}{ks:List V}{A:Option Addr}{l c:Nat}(h:Nw S w ks A l c)(hg:g < S)(x y z u:Value):Nw S ((((w.setCell ⟨g,0,none⟩ x).setCell ⟨g,1,none⟩ y).setCell ⟨g,2,none⟩ z).setCell ⟨g,3,none⟩ u) ks A l c:=
 (h.keep fun i hi=>heap_four w g x y z u i (by omega)).mono fun i hi=>⟨hi.1,by rw[size_four];exact hi.2⟩
theorem Nms.of {S rb ib:Nat}{w w':World}{ns:List V}{An:Option Addr}{nn cn:Nat}(h:Nw S w ns An nn cn)(hS:rb < S)(hS':ib < S)(hk:∀ i,i < w.heap.size→i≠rb→i≠ib→w'.heap[i]? = w.heap[i]?)(hs:w.heap.size≤w'.heap.size)(hf:∀ v∈ns,Fl v)(h16:ns.length≤16):Nms w' rb ib ns An nn cn:=
 ⟨(Val.Kids.keep h fun i hi=>hk i hi.2 (by omega) (by omega)).mono fun i hi=>⟨Nat.lt_of_lt_of_le hi.2 hs,by omega,by omega⟩,hf,by rw[h.len];exact h16⟩
theorem head_fl:∀ (N:Nat) (l:List Nat) (ns:List V) (c:Nat) (r:List Nat),headN N l=.ok (ns,c,r)→(∀ x∈l,x < 256)→(∀ v∈ns,Fl v)∧c < 256∧(∀ x∈r,x < 256)∧r.length < l.length
 | 0,_,_,_,_,h,_=>by simp[headN] at h
 | _+1,[],_,_,_,h,_=>by simp[headN] at h
 | N+1,c::l,ns,c',r,h,hl=>by
  rw[headN] at h;by_cases hc:c=0
  ·rw[if_pos hc] at h;cases hn:nameD l with
   | error s=>rw[hn] at h;cases h
   | ok p=>
    obtain⟨v,r1⟩:=p;rw[hn] at h;obtain⟨f1,f2,f3⟩:=name_fl hn fun x hx=>hl x (by simp[hx]);simp only at h;cases h2:headN N r1 with
    | error s=>rw[h2] at h;cases h
    | ok p=>
     obtain⟨ns2,c2,r2⟩:=p;rw[h2] at h;simp only[Except.ok.injEq,Prod.mk.injEq] at h;obtain⟨rfl,rfl,rfl⟩:=h;obtain⟨g1,g2,g3,g4⟩:=head_fl N r1 _ _ _ h2 f2;refine⟨fun x hx=>?_,g2,g3,by simp only[List.length_cons];omega⟩;rcases List.mem_cons.1 hx with rfl | hx
     ·exact f1
     ·exact g1 x hx
  ·rw[if_neg hc] at h
   split at h
   ·cases h
   ·simp only[Except.ok.injEq,Prod.mk.injEq] at h;obtain⟨rfl,rfl,rfl⟩:=h;exact⟨fun v hv=>(by cases hv),hl _ (by simp),fun x hx=>hl x (by simp[hx]),by simp⟩
set_option maxHeartbeats 2000000 in
theorem value_any {F:Nat}(hT:Told F){w:World}{rb ib B n c sh it:Nat}{A:Option Addr}{L:List Nat}(h:Rdr w rb ib B A n c L sh it)(hit:it≤1024)(hF:L.length≤F) :
  Calls Tryz.prog 67 #[.pointer (some ⟨rb,0,none⟩)] w (ValR rb ib B sh (valD (toldN F) it L) w):=by
 have hlr:=h.lr;have hli:=h.li;have hlow:=h.low;obtain⟨W0,hW0⟩:∃ W0,w.alloc (.cells #[.int .u8 0,.int .u64 0,.string ⟨#[]⟩,.slice none 0 0] 44)=W0:=⟨_,rfl⟩;have hB0:Below w.heap.size w W0:=by rw[←hW0];exact(Below.refl _ _).alloc (Nat.le_refl _) _
 have hbr0:Box W0 w.heap.size (.int .u8 0) (.int .u64 0) (.string ⟨#[]⟩) (.slice none 0 0):=by rw[←hW0];exact Box.new _ _ _ _ _
 have hs0:W0.heap.size=w.heap.size+1:=by rw[←hW0];simp
 have h0:=h.call hB0;have hA:=head_any h0;have hU0:Up rb ib w W0:=Up.of hB0;unfold valD;cases hR:headD L with
 | error s=>
  rw[hR] at hA;go_enter Tryz.func67,Tryz.ntmps67;go_wp2_with ((go_at_call 113;refine hA.mono ?_;rintro e w1 ⟨rfl,hu1⟩));exact⟨rfl,rfl,hU0.trans hu1⟩
 | ok p=>
  obtain⟨ns,k,r⟩:=p;rw[hR] at hA;obtain⟨hfl,hk,hrb,hrl⟩:=head_fl _ _ _ _ _ hR h.rd.lim;have hfl16:∀ v∈ns.take 16,Fl v:=fun v hv=>hfl v (List.mem_of_mem_take hv);have hln16:(ns.take 16).length≤16:=by rw[List.length_take];omega
  obtain⟨ms,hms⟩:∃ ms,ns.take 16=ms:=⟨_,rfl⟩;rw[hms] at hfl16 hln16;simp only;rw[hms];have HMS:=Lib.hid hms;clear hR hfl hms;have AFTER:∀ {w1 w3:World} {An:Option Addr} {nn cn:Nat},Up rb ib W0 w1→Nw W0.heap.size w1 ms An nn cn→Up rb ib (w1.alloc (.cells #[.slice An nn cn,.int .u8 (k:Int)] 134)).drew w3→Nms w3 rb ib ms An nn cn:=fun {w1 w3 An nn cn} hu1 hnw hu3=>by
   have e1:=hu1.size;have e3:=hu3.size;simp at e3;exact Nms.of hnw (by omega) (by omega) (fun i hi ha hb=>(hu3.block i (by simp;omega) ha hb).trans (Below.heap_alloc _ _ _ hi)) (by omega) hfl16 hln16
  cases hd:dataD k r with
  | none=>
   go_enter Tryz.func67,Tryz.ntmps67;go_wp2_with ((go_at_call 113;refine hA.mono ?_;rintro e w1 ⟨An,nn,cn,A2,n2,c2,rfl,hnw,hR1,hu1⟩;rw[HMS.out] at hnw));have hbx:HBox (w1.alloc (.cells #[.slice An nn cn,.int .u8 (k:Int)] 134)).drew w1.heap.size (.slice An nn cn) (.int .u8 (k:Int)):=HBox.new w1 (.slice An nn cn) (.int .u8 (k:Int));have e1:=hu1.size;have hRg:=hR1.call ((Below.refl _ _).alloc (Nat.le_refl _) (.cells #[.slice An nn cn,.int .u8 (k:Int)] 134)).drew;have hUg:Up rb ib w _:=(hU0.trans hu1).call ((Below.refl _ _).alloc (Nat.le_refl _) (.cells #[.slice An nn cn,.int .u8 (k:Int)] 134)).drew;refine wp_region_held_drew (S:=fun wx=>HBox wx w1.heap.size (.slice An nn cn) (.int .u8 (k:Int))) (by kernel_rfl) (by exact hbx) (fun hHeld=>?_)
   try simp only[Act.put,sA,sB,sC]
   (refine wpAnyH_take (i:=0) (oi:=⟨some 6,_,_,_,_,_⟩) (v:=?_) rfl (by kernel_rfl) (by kernel_rfl) (by kernel_rfl) (fun _ _ _ h=>h) (Or.inl ⟨by kernel_rfl,?_⟩) (by assumption) ?_;rotate_left 1;(· intro wx hSw;(try dsimp only at hSw);obtain⟨y0,y1,yf⟩:=HBox.all hSw;go_simp;(try with_reducible rfl)))
   try simp only[Act.put,sA,sB,sC]
   (refine wpAnyH_take (i:=1) (oi:=⟨some 7,_,_,_,_,_⟩) (v:=?_) rfl (by kernel_rfl) (by kernel_rfl) (by kernel_rfl) (fun _ _ _ h=>h) (Or.inl ⟨by kernel_rfl,?_⟩) (by assumption) ?_;rotate_left 1;(· intro wx hSw;(try dsimp only at hSw);obtain⟨y0,y1,yf⟩:=HBox.all hSw;go_simp;(try with_reducible rfl)))
   try simp only[Act.put,sA,sB,sC]
   (refine wpAnyH_take (i:=2) (oi:=⟨some 8,_,_,_,_,_⟩) (v:=?_) rfl (by kernel_rfl) (by kernel_rfl) (by kernel_rfl) (fun _ _ _ h=>h) (Or.inl ⟨by kernel_rfl,?_⟩) (by assumption) ?_;rotate_left 1;(· intro wx hSw;(try dsimp only at hSw);obtain⟨y0,y1,yf⟩:=HBox.all hSw;go_simp;(try with_reducible rfl)))
   try simp only[Act.put,sA,sB,sC]
   (refine wpAnyH_take (i:=3) (oi:=⟨some 9,_,_,_,_,_⟩) (v:=?_) rfl (by kernel_rfl) (by kernel_rfl) (by kernel_rfl) (fun _ _ _ h=>h) (Or.inl ⟨by kernel_rfl,?_⟩) (by assumption) ?_;rotate_left 1;(· intro wx hSw;(try dsimp only at hSw);obtain⟨y0,y1,yf⟩:=HBox.all hSw;go_simp;(try with_reducible rfl)))
   try simp only[Act.put,sA,sB,sC]
   (refine wpAnyH_take (i:=4) (oi:=⟨some 10,_,_,_,_,_⟩) (v:=?_) rfl (by kernel_rfl) (by kernel_rfl) (by kernel_rfl) (fun _ _ _ h=>h) (Or.inl ⟨by kernel_rfl,?_⟩) (by assumption) ?_;rotate_left 1;(· intro wx hSw;(try dsimp only at hSw);obtain⟨y0,y1,yf⟩:=HBox.all hSw;go_simp;(try with_reducible rfl)))
   try simp only[Act.put,sA,sB,sC]
   (refine wpAnyH_ready (rs:=[5]) (by kernel_rfl) (by simp) ?_;refine AllReadyH.cons (o:=⟨some 11,_,_,_,_,_⟩) rfl (fun K hK=>?_) AllReadyH.nil;go_simp;(go_at_call 115;refine(data_no hRg k hd).mono ?_;rintro e w3 ⟨rfl,hu3⟩);go_wp2_with fail)
   try simp only[Act.put,sA,sB,sC]
   exact⟨rfl,rfl,hUg.trans hu3⟩
   try simp only[Act.put,sA,sB,sC]
  | some q=>
   obtain⟨d,r'⟩:=q;obtain⟨hdb,hrb',hdl⟩:=data_byte hd hrb;simp only;cases ht:toldN F it ms k d with
   | none=>
    go_enter Tryz.func67,Tryz.ntmps67;go_wp2_with ((go_at_call 113;refine hA.mono ?_;rintro e w1 ⟨An,nn,cn,A2,n2,c2,rfl,hnw,hR1,hu1⟩;rw[HMS.out] at hnw));have hbx:HBox (w1.alloc (.cells #[.slice An nn cn,.int .u8 (k:Int)] 134)).drew w1.heap.size (.slice An nn cn) (.int .u8 (k:Int)):=HBox.new w1 (.slice An nn cn) (.int .u8 (k:Int));have e1:=hu1.size;have hRg:=hR1.call ((Below.refl _ _).alloc (Nat.le_refl _) (.cells #[.slice An nn cn,.int .u8 (k:Int)] 134)).drew;have hUg:Up rb ib w _:=(hU0.trans hu1).call ((Below.refl _ _).alloc (Nat.le_refl _) (.cells #[.slice An nn cn,.int .u8 (k:Int)] 134)).drew;have hTold:∀ {w3:World} {A3:Option Addr} {m3 c3:Nat} {A4:Option Addr} {n4 c4:Nat},Rd .u8 256 w3 B A3 m3 d→m3≤c3→Rdr w3 rb ib B A4 n4 c4 r' sh it→Up rb ib (w1.alloc (.cells #[.slice An nn cn,.int .u8 (k:Int)] 134)).drew w3 →
      Calls Tryz.prog 114 #[.pointer (some ⟨rb,0,none⟩),.agg #[.slice An nn cn,.int .u8 (k:Int)],.slice A3 m3 c3] w3 (Fails 6 ib ib w3):=fun {w3 A3 m3 c3 A4 n4 c4} hr3 hm3 hR3 hu3=>by
     have:=hT.get w3 rb ib B n4 c4 sh it A4 r' ms An nn cn k d A3 m3 c3 hR3 hit (AFTER hu1 hnw hu3) hk hr3 hm3 (by rw[←hr3.len];have:=h.rd.len;have:=h.lim;omega) (by omega);rw[ht] at this;exact this
    refine wp_region_held_drew (S:=fun wx=>HBox wx w1.heap.size (.slice An nn cn) (.int .u8 (k:Int))) (by kernel_rfl) (by exact hbx) (fun hHeld=>?_)
    try simp only[Act.put,sA,sB,sC]
    (refine wpAnyH_take (i:=0) (oi:=⟨some 6,_,_,_,_,_⟩) (v:=?_) rfl (by kernel_rfl) (by kernel_rfl) (by kernel_rfl) (fun _ _ _ h=>h) (Or.inl ⟨by kernel_rfl,?_⟩) (by assumption) ?_;rotate_left 1;(· intro wx hSw;(try dsimp only at hSw);obtain⟨y0,y1,yf⟩:=HBox.all hSw;go_simp;(try with_reducible rfl)))
    try simp only[Act.put,sA,sB,sC]
    (refine wpAnyH_take (i:=1) (oi:=⟨some 7,_,_,_,_,_⟩) (v:=?_) rfl (by kernel_rfl) (by kernel_rfl) (by kernel_rfl) (fun _ _ _ h=>h) (Or.inl ⟨by kernel_rfl,?_⟩) (by assumption) ?_;rotate_left 1;(· intro wx hSw;(try dsimp only at hSw);obtain⟨y0,y1,yf⟩:=HBox.all hSw;go_simp;(try with_reducible rfl)))
    try simp only[Act.put,sA,sB,sC]
    (refine wpAnyH_take (i:=2) (oi:=⟨some 8,_,_,_,_,_⟩) (v:=?_) rfl (by kernel_rfl) (by kernel_rfl) (by kernel_rfl) (fun _ _ _ h=>h) (Or.inl ⟨by kernel_rfl,?_⟩) (by assumption) ?_;rotate_left 1;(· intro wx hSw;(try dsimp only at hSw);obtain⟨y0,y1,yf⟩:=HBox.all hSw;go_simp;(try with_reducible rfl)))
    try simp only[Act.put,sA,sB,sC]
    (refine wpAnyH_take (i:=3) (oi:=⟨some 9,_,_,_,_,_⟩) (v:=?_) rfl (by kernel_rfl) (by kernel_rfl) (by kernel_rfl) (fun _ _ _ h=>h) (Or.inl ⟨by kernel_rfl,?_⟩) (by assumption) ?_;rotate_left 1;(· intro wx hSw;(try dsimp only at hSw);obtain⟨y0,y1,yf⟩:=HBox.all hSw;go_simp;(try with_reducible rfl)))
    try simp only[Act.put,sA,sB,sC]
    (refine wpAnyH_take (i:=4) (oi:=⟨some 10,_,_,_,_,_⟩) (v:=?_) rfl (by kernel_rfl) (by kernel_rfl) (by kernel_rfl) (fun _ _ _ h=>h) (Or.inl ⟨by kernel_rfl,?_⟩) (by assumption) ?_;rotate_left 1;(· intro wx hSw;(try dsimp only at hSw);obtain⟨y0,y1,yf⟩:=HBox.all hSw;go_simp;(try with_reducible rfl)))
    try simp only[Act.put,sA,sB,sC]
    (refine wpAnyH_ready (rs:=[5]) (by kernel_rfl) (by simp) ?_;refine AllReadyH.cons (o:=⟨some 11,_,_,_,_,_⟩) rfl (fun K hK=>?_) AllReadyH.nil;go_simp;(go_at_call 115;refine(data_ok hRg k hd).mono ?_;rintro e w3 ⟨A3,m3,c3,A4,n4,c4,rfl,hm3,hr3,hR3,hu3⟩;have hbx3:=HBox.up hbx hu3 (show w1.heap.size≠rb by omega) (show w1.heap.size≠ib by omega));go_wp2_with fail;refine hK.out _ _ ?_ (fun hHeld=>?_);(· exact hbx3);clear hK K)
    try simp only[Act.put,sA,sB,sC]
    (refine wpAnyH_ready (rs:=[6]) (by kernel_rfl) (by simp) ?_;refine AllReadyH.cons (o:=⟨some 12,_,_,_,_,_⟩) rfl (fun K hK=>?_) AllReadyH.nil;go_simp;(go_at_call 114;refine((hTold hr3 hm3 hR3 hu3).mono ?_);rintro e w4 ⟨rfl,hu4⟩);go_wp2_with fail)
    try simp only[Act.put,sA,sB,sC]
    exact⟨rfl,rfl,(hUg.trans hu3).trans hu4.wide⟩
    try simp only[Act.put,sA,sB,sC]
   | some q=>
    obtain⟨v,it'⟩:=q;go_enter Tryz.func67,Tryz.ntmps67;go_wp2_with ((go_at_call 113;refine hA.mono ?_;rintro e w1 ⟨An,nn,cn,A2,n2,c2,rfl,hnw,hR1,hu1⟩;rw[HMS.out] at hnw));have hbx:HBox (w1.alloc (.cells #[.slice An nn cn,.int .u8 (k:Int)] 134)).drew w1.heap.size (.slice An nn cn) (.int .u8 (k:Int)):=HBox.new w1 (.slice An nn cn) (.int .u8 (k:Int));have hbr:Box (w1.alloc (.cells #[.slice An nn cn,.int .u8 (k:Int)] 134)).drew w.heap.size (.int .u8 0) (.int .u64 0) (.string ⟨#[]⟩) (.slice none 0 0):=(Box.up hbr0 hu1 (by omega) (by omega)).alloc _;have e1:=hu1.size;have hRg:=hR1.call ((Below.refl _ _).alloc (Nat.le_refl _) (.cells #[.slice An nn cn,.int .u8 (k:Int)] 134)).drew;have hUg:Up rb ib w _:=(hU0.trans hu1).call ((Below.refl _ _).alloc (Nat.le_refl _) (.cells #[.slice An nn cn,.int .u8 (k:Int)] 134)).drew;have hTold:∀ {w3:World} {A3:Option Addr} {m3 c3:Nat} {A4:Option Addr} {n4 c4:Nat},Rd .u8 256 w3 B A3 m3 d→m3≤c3→Rdr w3 rb ib B A4 n4 c4 r' sh it→Up rb ib (w1.alloc (.cells #[.slice An nn cn,.int .u8 (k:Int)] 134)).drew w3 →
      Calls Tryz.prog 114 #[.pointer (some ⟨rb,0,none⟩),.agg #[.slice An nn cn,.int .u8 (k:Int)],.slice A3 m3 c3] w3 (ToldR rb ib B A4 n4 c4 r' sh (some (v,it')) w3):=fun {w3 A3 m3 c3 A4 n4 c4} hr3 hm3 hR3 hu3=>by
     have:=hT.get w3 rb ib B n4 c4 sh it A4 r' ms An nn cn k d A3 m3 c3 hR3 hit (AFTER hu1 hnw hu3) hk hr3 hm3 (by rw[←hr3.len];have:=h.rd.len;have:=h.lim;omega) (by omega);rw[ht] at this;exact this
    refine wp_region_held_drew (S:=fun wx=>HBox wx w1.heap.size (.slice An nn cn) (.int .u8 (k:Int))) (by kernel_rfl) (by exact hbx) (fun hHeld=>?_)
    try simp only[Act.put,sA,sB,sC]
    (refine wpAnyH_take (i:=0) (oi:=⟨some 6,_,_,_,_,_⟩) (v:=?_) rfl (by kernel_rfl) (by kernel_rfl) (by kernel_rfl) (fun _ _ _ h=>h) (Or.inl ⟨by kernel_rfl,?_⟩) (by assumption) ?_;rotate_left 1;(· intro wx hSw;(try dsimp only at hSw);obtain⟨y0,y1,yf⟩:=HBox.all hSw;go_simp;(try with_reducible rfl)))
    try simp only[Act.put,sA,sB,sC]
    (refine wpAnyH_take (i:=1) (oi:=⟨some 7,_,_,_,_,_⟩) (v:=?_) rfl (by kernel_rfl) (by kernel_rfl) (by kernel_rfl) (fun _ _ _ h=>h) (Or.inl ⟨by kernel_rfl,?_⟩) (by assumption) ?_;rotate_left 1;(· intro wx hSw;(try dsimp only at hSw);obtain⟨y0,y1,yf⟩:=HBox.all hSw;go_simp;(try with_reducible rfl)))
    try simp only[Act.put,sA,sB,sC]
    (refine wpAnyH_take (i:=2) (oi:=⟨some 8,_,_,_,_,_⟩) (v:=?_) rfl (by kernel_rfl) (by kernel_rfl) (by kernel_rfl) (fun _ _ _ h=>h) (Or.inl ⟨by kernel_rfl,?_⟩) (by assumption) ?_;rotate_left 1;(· intro wx hSw;(try dsimp only at hSw);obtain⟨y0,y1,yf⟩:=HBox.all hSw;go_simp;(try with_reducible rfl)))
    try simp only[Act.put,sA,sB,sC]
    (refine wpAnyH_take (i:=3) (oi:=⟨some 9,_,_,_,_,_⟩) (v:=?_) rfl (by kernel_rfl) (by kernel_rfl) (by kernel_rfl) (fun _ _ _ h=>h) (Or.inl ⟨by kernel_rfl,?_⟩) (by assumption) ?_;rotate_left 1;(· intro wx hSw;(try dsimp only at hSw);obtain⟨y0,y1,yf⟩:=HBox.all hSw;go_simp;(try with_reducible rfl)))
    try simp only[Act.put,sA,sB,sC]
    (refine wpAnyH_take (i:=4) (oi:=⟨some 10,_,_,_,_,_⟩) (v:=?_) rfl (by kernel_rfl) (by kernel_rfl) (by kernel_rfl) (fun _ _ _ h=>h) (Or.inl ⟨by kernel_rfl,?_⟩) (by assumption) ?_;rotate_left 1;(· intro wx hSw;(try dsimp only at hSw);obtain⟨y0,y1,yf⟩:=HBox.all hSw;go_simp;(try with_reducible rfl)))
    try simp only[Act.put,sA,sB,sC]
    (refine wpAnyH_ready (rs:=[5]) (by kernel_rfl) (by simp) ?_;refine AllReadyH.cons (o:=⟨some 11,_,_,_,_,_⟩) rfl (fun K hK=>?_) AllReadyH.nil;go_simp;(go_at_call 115;refine(data_ok hRg k hd).mono ?_;rintro e w3 ⟨A3,m3,c3,A4,n4,c4,rfl,hm3,hr3,hR3,hu3⟩;have hbx3:=HBox.up hbx hu3 (show w1.heap.size≠rb by omega) (show w1.heap.size≠ib by omega));go_wp2_with fail;refine hK.out _ _ ?_ (fun hHeld=>?_);(· exact hbx3);clear hK K)
    try simp only[Act.put,sA,sB,sC]
    (refine wpAnyH_ready (rs:=[6]) (by kernel_rfl) (by simp) ?_;refine AllReadyH.cons (o:=⟨some 12,_,_,_,_,_⟩) rfl (fun K hK=>?_) AllReadyH.nil;go_simp;(go_at_call 114;refine((hTold hr3 hm3 hR3 hu3).mono ?_);rintro e w4 ⟨⟨Av,lv,cv,rfl,hvk,hvn,hnv⟩,hit4,hR4,hu4⟩;have hbx4:=HBox.up hbx3 hu4 (show w1.heap.size≠ib by omega) (show w1.heap.size≠ib by omega));go_wp2_with fail;refine hK.out _ _ ?_ (fun hHeld=>?_);(· exact hbx4);clear hK K)
    try simp only[Act.put,sA,sB,sC]
    have hbz:=Box.up (Box.up hbr hu3 (by omega) (by omega)) hu4 (by omega) (by omega);obtain⟨z0,z1,z2,z3,zf⟩:=hbz.all
    try simp only[Act.put,sA,sB,sC]
    (refine wpAnyH_ready (rs:=[7]) (by kernel_rfl) (by simp) ?_;refine AllReadyH.cons (o:=⟨none,_,_,_,_,_⟩) rfl (fun K hK=>?_) AllReadyH.nil;go_simp;go_wp2_with fail;refine hK.out _ _ ?_ (fun hHeld=>?_);(· exact(HBox.far4 hbx4 (by omega) _ _ _ _));clear hK K)
    try simp only[Act.put,sA,sB,sC]
    refine wpAnyH_done (by kernel_rfl) ?_ _
    try simp only[Act.put,sA,sB,sC]
    go_wp2_with fail;refine bodyPost_ret (v:=.agg #[.int .u8 (v.kind:Int),.int .u64 (v.num:Int),.string v.text,.slice Av lv cv]) (by simp[results,Tryz.results67,go_sem,z0,z1,z2,z3]) rfl ?_;have e3:=hu3.size;simp at e3;exact⟨⟨Av,lv,cv,rfl,hvk,hvn,Nw.less (Nw_four hnv (by omega) _ _ _ _) (by omega)⟩,hit4,⟨A4,n4,c4,hR4.far4 hlow (by omega) (by omega) _ _ _ _⟩,up_set4 ((hUg.trans hu3).trans hu4.wide) (Nat.le_refl _) _ _ _ _⟩
    try simp only[Act.put,sA,sB,sC]
end Go.Proofs.YtcilmmdmkpnppaaGreatDoor.Dec
namespace Go.Proofs.YtcilmmdmkpnppaaGreatDoor.Dec
set_option maxRecDepth 100000
open Go.RowKit Utf Val V
theorem sel_six (s:Bool):sel s 6=6:=by unfold sel;split<;>rfl
theorem kid0_any {F:Nat}(hT:Told F){w:World}{rb ib B n c it:Nat}{A:Option Addr}{L:List Nat}(h:Rdr w rb ib B A n c L 6 it)(hit:it≤1024)(hF:L.length≤F) :
  Calls Tryz.prog 67 #[.pointer (some ⟨rb,0,none⟩)] w (KidR rb ib B (stepV (toldN F) it L) w):=by
 refine(value_any hT h hit hF).mono ?_;rw[step_val];cases valD (toldN F) it L with
 | error s=>
  intro e w' he;have he:Fails (sel s 6) rb ib w e w':=he;rw[sel_six] at he;exact he
 | ok p=>
  obtain⟨v,it',r⟩:=p;exact fun e w' he=>he
set_option maxHeartbeats 2000000 in
theorem kid1_any {F:Nat}(hT:Told F){w:World}{rb ib B n c it G k:Nat}{A:Option Addr}{L:List Nat}{ms:List V}{An:Option Addr}{nn cn:Nat}(h:Rdr w rb ib B A n c L 6 it)(hit:it≤1024)(hF:L.length < F)
  (hb:HBox w G (.slice An nn cn) (.int .u8 (k:Int))) (hGr:G≠rb) (hGi:G≠ib) (hN:Nms w rb ib ms An nn cn) (hk:k < 256) :
  Calls Tryz.prog 183 #[.pointer (some ⟨rb,0,none⟩),.pointer (some ⟨G,0,none⟩)] w (KidR rb ib B (stepA (toldN F) ms k it L) w):=by
 have hlr:=h.lr;have hli:=h.li;have hlow:=h.low;have hGl:=hb.lt;obtain⟨W0,hW0⟩:∃ W0,(w.alloc (.cells #[.int .u8 0,.int .u64 0,.string ⟨#[]⟩,.slice none 0 0] 44))=W0:=⟨_,rfl⟩;have hB0:Below w.heap.size w W0:=by rw[←hW0];exact((Below.refl _ _).alloc (Nat.le_refl _) _)
 have hbr:Box W0.drew w.heap.size (.int .u8 0) (.int .u64 0) (.string ⟨#[]⟩) (.slice none 0 0):=by rw[←hW0];exact Box.new _ _ _ _ _
 have hs0:W0.heap.size=w.heap.size+1:=by rw[←hW0];simp
 have hRg:=(h.call hB0).call (Below.refl _ _).drew;have hbx:HBox W0.drew G (.slice An nn cn) (.int .u8 (k:Int)):=hb.keep (hB0.block _ hGl);have hUg:Up rb ib w W0.drew:=Up.of hB0.drew;have AFTER:∀ {w3:World},Up rb ib W0.drew w3→Nms w3 rb ib ms An nn cn:=fun {w3} hu3=>by
  have e3:=hu3.size;have e4:W0.drew.heap.size=W0.heap.size:=rfl;exact⟨(hN.kids.keep fun i hi=>(hu3.block i (by rw[e4];omega) hi.2.1 hi.2.2).trans (hB0.block _ hi.1)).mono fun i hi=>⟨by omega,hi.2.1,hi.2.2⟩,hN.fl,hN.few⟩
 have hHW:=Lib.hid hs0;unfold stepA;cases hd:dataD k L with
 | none=>
  simp only;go_enter Tryz.func183,Tryz.ntmps183;go_wp2_with fail;refine wp_region_held_drew (S:=fun wx=>HBox wx G (.slice An nn cn) (.int .u8 (k:Int))) (by kernel_rfl) (by exact hbx) (fun hHeld=>?_)
  try simp only[Act.put,sA,sB,sC]
  (refine wpAnyH_take (i:=0) (oi:=⟨some 3,_,_,_,_,_⟩) (v:=?_) rfl (by kernel_rfl) (by kernel_rfl) (by kernel_rfl) (fun _ _ _ h=>h) (Or.inl ⟨by kernel_rfl,?_⟩) (by assumption) ?_;rotate_left 1;(· intro wx hSw;(try dsimp only at hSw);obtain⟨y0,y1,yf⟩:=HBox.all hSw;go_simp;(try with_reducible rfl)))
  try simp only[Act.put,sA,sB,sC]
  (refine wpAnyH_take (i:=1) (oi:=⟨some 4,_,_,_,_,_⟩) (v:=?_) rfl (by kernel_rfl) (by kernel_rfl) (by kernel_rfl) (fun _ _ _ h=>h) (Or.inl ⟨by kernel_rfl,?_⟩) (by assumption) ?_;rotate_left 1;(· intro wx hSw;(try dsimp only at hSw);obtain⟨y0,y1,yf⟩:=HBox.all hSw;go_simp;(try with_reducible rfl)))
  try simp only[Act.put,sA,sB,sC]
  (refine wpAnyH_take (i:=2) (oi:=⟨some 5,_,_,_,_,_⟩) (v:=?_) rfl (by kernel_rfl) (by kernel_rfl) (by kernel_rfl) (fun _ _ _ h=>h) (Or.inl ⟨by kernel_rfl,?_⟩) (by assumption) ?_;rotate_left 1;(· intro wx hSw;(try dsimp only at hSw);obtain⟨y0,y1,yf⟩:=HBox.all hSw;go_simp;(try with_reducible rfl)))
  try simp only[Act.put,sA,sB,sC]
  (refine wpAnyH_ready (rs:=[3]) (by kernel_rfl) (by simp) ?_;refine AllReadyH.cons (o:=⟨some 6,_,_,_,_,_⟩) rfl (fun K hK=>?_) AllReadyH.nil;go_simp;(go_at_call 115;refine(data_no hRg k hd).mono ?_;rintro e w3 ⟨rfl,hu3⟩);go_wp2_with fail)
  try simp only[Act.put,sA,sB,sC]
  exact⟨rfl,rfl,hUg.trans hu3⟩
  try simp only[Act.put,sA,sB,sC]
 | some q=>
  obtain⟨d,r'⟩:=q;obtain⟨hdb,hrb',hdl⟩:=data_byte hd h.rd.lim;simp only;cases ht:toldN F it ms k d with
  | none=>
   simp only;go_enter Tryz.func183,Tryz.ntmps183;go_wp2_with fail;have hTold:∀ {w3:World} {A3:Option Addr} {m3 c3:Nat} {A4:Option Addr} {n4 c4:Nat},Rd .u8 256 w3 B A3 m3 d→m3≤c3→Rdr w3 rb ib B A4 n4 c4 r' 6 it→Up rb ib W0.drew w3 →
     Calls Tryz.prog 114 #[.pointer (some ⟨rb,0,none⟩),.agg #[.slice An nn cn,.int .u8 (k:Int)],.slice A3 m3 c3] w3 (Fails 6 ib ib w3):=fun {w3 A3 m3 c3 A4 n4 c4} hr3 hm3 hR3 hu3=>by
    have:=hT.get w3 rb ib B n4 c4 6 it A4 r' ms An nn cn k d A3 m3 c3 hR3 hit (AFTER hu3) hk hr3 hm3 (by rw[←hr3.len];have:=h.rd.len;have:=h.lim;omega) (by omega);rw[ht] at this;exact this
   refine wp_region_held_drew (S:=fun wx=>HBox wx G (.slice An nn cn) (.int .u8 (k:Int))) (by kernel_rfl) (by exact hbx) (fun hHeld=>?_)
   try simp only[Act.put,sA,sB,sC]
   (refine wpAnyH_take (i:=0) (oi:=⟨some 3,_,_,_,_,_⟩) (v:=?_) rfl (by kernel_rfl) (by kernel_rfl) (by kernel_rfl) (fun _ _ _ h=>h) (Or.inl ⟨by kernel_rfl,?_⟩) (by assumption) ?_;rotate_left 1;(· intro wx hSw;(try dsimp only at hSw);obtain⟨y0,y1,yf⟩:=HBox.all hSw;go_simp;(try with_reducible rfl)))
   try simp only[Act.put,sA,sB,sC]
   (refine wpAnyH_take (i:=1) (oi:=⟨some 4,_,_,_,_,_⟩) (v:=?_) rfl (by kernel_rfl) (by kernel_rfl) (by kernel_rfl) (fun _ _ _ h=>h) (Or.inl ⟨by kernel_rfl,?_⟩) (by assumption) ?_;rotate_left 1;(· intro wx hSw;(try dsimp only at hSw);obtain⟨y0,y1,yf⟩:=HBox.all hSw;go_simp;(try with_reducible rfl)))
   try simp only[Act.put,sA,sB,sC]
   (refine wpAnyH_take (i:=2) (oi:=⟨some 5,_,_,_,_,_⟩) (v:=?_) rfl (by kernel_rfl) (by kernel_rfl) (by kernel_rfl) (fun _ _ _ h=>h) (Or.inl ⟨by kernel_rfl,?_⟩) (by assumption) ?_;rotate_left 1;(· intro wx hSw;(try dsimp only at hSw);obtain⟨y0,y1,yf⟩:=HBox.all hSw;go_simp;(try with_reducible rfl)))
   try simp only[Act.put,sA,sB,sC]
   (refine wpAnyH_ready (rs:=[3]) (by kernel_rfl) (by simp) ?_;refine AllReadyH.cons (o:=⟨some 6,_,_,_,_,_⟩) rfl (fun K hK=>?_) AllReadyH.nil;go_simp;(go_at_call 115;refine(data_ok hRg k hd).mono ?_;rintro e w3 ⟨A3,m3,c3,A4,n4,c4,rfl,hm3,hr3,hR3,hu3⟩;have hbx3:=HBox.up hbx hu3 (show G≠rb by omega) (show G≠ib by omega));go_wp2_with fail;refine hK.out _ _ ?_ (fun hHeld=>?_);(· exact hbx3);clear hK K)
   try simp only[Act.put,sA,sB,sC]
   (refine wpAnyH_ready (rs:=[4]) (by kernel_rfl) (by simp) ?_;refine AllReadyH.cons (o:=⟨some 7,_,_,_,_,_⟩) rfl (fun K hK=>?_) AllReadyH.nil;go_simp;(go_at_call 114;refine((hTold hr3 hm3 hR3 hu3).mono ?_);rintro e w4 ⟨rfl,hu4⟩);go_wp2_with fail)
   try simp only[Act.put,sA,sB,sC]
   exact⟨rfl,rfl,(hUg.trans hu3).trans hu4.wide⟩
   try simp only[Act.put,sA,sB,sC]
  | some q=>
   obtain⟨v,it'⟩:=q;simp only;go_enter Tryz.func183,Tryz.ntmps183;go_wp2_with fail;have hTold:∀ {w3:World} {A3:Option Addr} {m3 c3:Nat} {A4:Option Addr} {n4 c4:Nat},Rd .u8 256 w3 B A3 m3 d→m3≤c3→Rdr w3 rb ib B A4 n4 c4 r' 6 it→Up rb ib W0.drew w3 →
     Calls Tryz.prog 114 #[.pointer (some ⟨rb,0,none⟩),.agg #[.slice An nn cn,.int .u8 (k:Int)],.slice A3 m3 c3] w3 (ToldR rb ib B A4 n4 c4 r' 6 (some (v,it')) w3):=fun {w3 A3 m3 c3 A4 n4 c4} hr3 hm3 hR3 hu3=>by
    have:=hT.get w3 rb ib B n4 c4 6 it A4 r' ms An nn cn k d A3 m3 c3 hR3 hit (AFTER hu3) hk hr3 hm3 (by rw[←hr3.len];have:=h.rd.len;have:=h.lim;omega) (by omega);rw[ht] at this;exact this
   refine wp_region_held_drew (S:=fun wx=>HBox wx G (.slice An nn cn) (.int .u8 (k:Int))) (by kernel_rfl) (by exact hbx) (fun hHeld=>?_)
   try simp only[Act.put,sA,sB,sC]
   (refine wpAnyH_take (i:=0) (oi:=⟨some 3,_,_,_,_,_⟩) (v:=?_) rfl (by kernel_rfl) (by kernel_rfl) (by kernel_rfl) (fun _ _ _ h=>h) (Or.inl ⟨by kernel_rfl,?_⟩) (by assumption) ?_;rotate_left 1;(· intro wx hSw;(try dsimp only at hSw);obtain⟨y0,y1,yf⟩:=HBox.all hSw;go_simp;(try with_reducible rfl)))
   try simp only[Act.put,sA,sB,sC]
   (refine wpAnyH_take (i:=1) (oi:=⟨some 4,_,_,_,_,_⟩) (v:=?_) rfl (by kernel_rfl) (by kernel_rfl) (by kernel_rfl) (fun _ _ _ h=>h) (Or.inl ⟨by kernel_rfl,?_⟩) (by assumption) ?_;rotate_left 1;(· intro wx hSw;(try dsimp only at hSw);obtain⟨y0,y1,yf⟩:=HBox.all hSw;go_simp;(try with_reducible rfl)))
   try simp only[Act.put,sA,sB,sC]
   (refine wpAnyH_take (i:=2) (oi:=⟨some 5,_,_,_,_,_⟩) (v:=?_) rfl (by kernel_rfl) (by kernel_rfl) (by kernel_rfl) (fun _ _ _ h=>h) (Or.inl ⟨by kernel_rfl,?_⟩) (by assumption) ?_;rotate_left 1;(· intro wx hSw;(try dsimp only at hSw);obtain⟨y0,y1,yf⟩:=HBox.all hSw;go_simp;(try with_reducible rfl)))
   try simp only[Act.put,sA,sB,sC]
   (refine wpAnyH_ready (rs:=[3]) (by kernel_rfl) (by simp) ?_;refine AllReadyH.cons (o:=⟨some 6,_,_,_,_,_⟩) rfl (fun K hK=>?_) AllReadyH.nil;go_simp;(go_at_call 115;refine(data_ok hRg k hd).mono ?_;rintro e w3 ⟨A3,m3,c3,A4,n4,c4,rfl,hm3,hr3,hR3,hu3⟩;have hbx3:=HBox.up hbx hu3 (show G≠rb by omega) (show G≠ib by omega));go_wp2_with fail;refine hK.out _ _ ?_ (fun hHeld=>?_);(· exact hbx3);clear hK K)
   try simp only[Act.put,sA,sB,sC]
   (refine wpAnyH_ready (rs:=[4]) (by kernel_rfl) (by simp) ?_;refine AllReadyH.cons (o:=⟨some 7,_,_,_,_,_⟩) rfl (fun K hK=>?_) AllReadyH.nil;go_simp;(go_at_call 114;refine((hTold hr3 hm3 hR3 hu3).mono ?_);rintro e w4 ⟨⟨Av,lv,cv,rfl,hvk,hvn,hnv⟩,hit4,hR4,hu4⟩;have hbx4:=HBox.up hbx3 hu4 (show G≠ib by omega) (show G≠ib by omega));go_wp2_with fail;refine hK.out _ _ ?_ (fun hHeld=>?_);(· exact hbx4);clear hK K)
   try simp only[Act.put,sA,sB,sC]
   have hbz:=Box.up (Box.up hbr hu3 (by omega) (by omega)) hu4 (by omega) (by omega);obtain⟨z0,z1,z2,z3,zf⟩:=hbz.all
   try simp only[Act.put,sA,sB,sC]
   (refine wpAnyH_ready (rs:=[5]) (by kernel_rfl) (by simp) ?_;refine AllReadyH.cons (o:=⟨none,_,_,_,_,_⟩) rfl (fun K hK=>?_) AllReadyH.nil;go_simp;go_wp2_with fail;refine hK.out _ _ ?_ (fun hHeld=>?_);(· exact(HBox.far4 hbx4 (by omega) _ _ _ _));clear hK K)
   try simp only[Act.put,sA,sB,sC]
   refine wpAnyH_done (by kernel_rfl) ?_ _
   try simp only[Act.put,sA,sB,sC]
   go_wp2_with fail;refine bodyPost_ret (v:=.agg #[.int .u8 (v.kind:Int),.int .u64 (v.num:Int),.string v.text,.slice Av lv cv]) (by simp[results,Tryz.results183,go_sem,z0,z1,z2,z3]) rfl ?_;have e3:=hu3.size;have e4:W0.drew.heap.size=W0.heap.size:=rfl;exact⟨⟨Av,lv,cv,rfl,hvk,hvn,Nw.less (Nw_four hnv (by omega) _ _ _ _) (by omega)⟩,hit4,⟨A4,n4,c4,hR4.far4 hlow (by omega) (by omega) _ _ _ _⟩,up_set4 ((hUg.trans hu3).trans hu4.wide) (Nat.le_refl _) _ _ _ _⟩
   try simp only[Act.put,sA,sB,sC]
end Go.Proofs.YtcilmmdmkpnppaaGreatDoor.Dec
