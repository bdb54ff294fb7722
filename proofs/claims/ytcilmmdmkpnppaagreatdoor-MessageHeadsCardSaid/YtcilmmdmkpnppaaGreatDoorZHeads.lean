/-
  Contracts of functions and plain mathematics, text by text, each with its conditions ahead of it:
  Messages, plain: a header and properties told with fields that are let go beside (MessageHeads). No Go in it.
  What the walk of MessageHeads asks of boxes and of rows of values without kids. Memory that was there stays. No condition.
  What the walk of MessageHeads asks of its two sections. Memory that was there stays. No condition.
  The statement MessageHeads, walked: it answers true. Memory that was there stays. Condition: the table utf.shapes lies as the program's text lays it.
  The statement MessageHeads: a header's and properties' fields are told, with those that are let go beside; a priority above 9, or an id that is too long, is wrong Condition, as the card has it: the table utf.shapes lies as the program's text lays it.
-/
import Derived.Test.YtcilmmdmkpnppaaGreatDoorY23
import Derived.Test.YtcilmmdmkpnppaaGreatDoorY24
import Derived.Test.YtcilmmdmkpnppaaGreatDoorY25
import Derived.StillTailTactics
import Derived.Deep.CutRange
import Derived.Deep.CutBlock
import Derived.Deep.RegionHeld3
section
namespace Go.Proofs.YtcilmmdmkpnppaaGreatDoor.Me
set_option maxRecDepth 100000
open Go.RowKit Utf Val Fl Oc Dec V
open Enc hiding nullV
def heL (w:Bool)(p ttl n:Nat):List V:=[if w=true then .mk 2 1 ⟨#[]⟩ [] else .mk 1 0 ⟨#[]⟩ [],.mk 3 p ⟨#[]⟩ [],.mk 5 ttl ⟨#[]⟩ [],if w=true then .mk 2 1 ⟨#[]⟩ [] else .mk 1 0 ⟨#[]⟩ [],.mk 5 n ⟨#[]⟩ []]
def moreL:List V:=[.mk 19 0 ⟨#[117]⟩ [],.mk 20 0 ⟨#[115]⟩ [],.mk 20 0 ⟨#[115]⟩ [],.mk 20 0 ⟨#[115]⟩ [],.mk 6 1 ⟨#[]⟩ [],.mk 21 0 ⟨#[121]⟩ [],.mk 21 0 ⟨#[121]⟩ [],.mk 14 1 ⟨#[]⟩ [],.mk 14 2 ⟨#[]⟩ [],.mk 20 0 ⟨#[115]⟩ [],.mk 5 3 ⟨#[]⟩ [],.mk 20 0 ⟨#[115]⟩ []]
def prL (w:Bool)(id:ByteArray):List V:=.mk 20 0 id []::(if w=true then moreL else [])
theorem he_trim (w:Bool)(p ttl n:Nat):trim (heL w p ttl n)=heL w p ttl n:=by
 have h:cutN (heL w p ttl n) 5=5:=cutN_some (i:=4) (k:=5) (n:=n) (t:=⟨#[]⟩) (ks:=[]) rfl (by omega);unfold trim;have hl:(heL w p ttl n).length=5:=rfl;rw[hl,h];exact List.take_of_length_le (by rw[hl];omega)
theorem pr_trim (w:Bool)(id:ByteArray):trim (prL w id)=prL w id:=by
 cases w with
 | false=>exact trim_one (by show ¬ (20=1);omega)
 | true=>
  have h:cutN (prL true id) 13=13:=cutN_some (i:=12) (k:=20) (n:=0) (t:=⟨#[115]⟩) (ks:=[]) rfl (by omega);unfold trim;have hl:(prL true id).length=13:=rfl;rw[hl,h];exact List.take_of_length_le (by rw[hl];omega)
theorem he_read (w:Bool)(p ttl n:Nat):hdB (heL w p ttl n)=decide (9 < p)∧(oneR (heL w p ttl n) 1 3 false false 4 V.num).1=p∧(oneR (heL w p ttl n) 2 5 false false 0 V.num).1=ttl∧(oneR (heL w p ttl n) 4 5 false false 0 V.num).1=n:=by
 have a1:Fl.ask (heL w p ttl n) 1=some (.mk 3 p ⟨#[]⟩ []):=ask_there (j:=1) rfl (by omega);have a2:Fl.ask (heL w p ttl n) 2=some (.mk 5 ttl ⟨#[]⟩ []):=ask_there (j:=2) rfl (by omega);have a4:Fl.ask (heL w p ttl n) 4=some (.mk 5 n ⟨#[]⟩ []):=ask_there (j:=4) rfl (by omega);have b0:b1 (heL w p ttl n) 0 2 false=false:=by
  cases w with
  | false=>exact b1_none (ask_null (j:=0) rfl)
  | true=>exact b1_ok (n:=1) (t:=⟨#[]⟩) (ks:=[]) (ask_there (j:=0) rfl (by omega))
 have b3:b1 (heL w p ttl n) 3 2 false=false:=by
  cases w with
  | false=>exact b1_none (ask_null (j:=3) rfl)
  | true=>exact b1_ok (n:=1) (t:=⟨#[]⟩) (ks:=[]) (ask_there (j:=3) rfl (by omega))
 have o1:oneR (heL w p ttl n) 1 3 false false 4 V.num=(p,false):=oneR_yes a1 rfl;have o2:oneR (heL w p ttl n) 2 5 false false 0 V.num=(ttl,false):=oneR_yes a2 rfl;have o4:oneR (heL w p ttl n) 4 5 false false 0 V.num=(n,false):=oneR_yes a4 rfl;have e1:(oneR (heL w p ttl n) 1 3 false false 4 V.num).1=p:=by rw[o1]
 refine⟨?_,e1,by rw[o2],by rw[o4]⟩;unfold hdB;rw[b0,b1_ok a1,b1_ok a2,b3,b1_ok a4,e1,decide_eq_false (show ¬ 5 < (heL w p ttl n).length by show ¬ 5 < 5;omega)];rfl
theorem pl_read (w:Bool)(id:ByteArray):prB (prL w id)=decide (64 < id.size)∧idR (prL w id)=id:=by
 have h0:Fl.ask (prL w id) 0=some (.mk 20 0 id []):=ask_there (j:=0) rfl (by omega);have hv:valR (prL w id) 0 idsL false=(.mk 20 0 id [],false):=valR_yes h0 (show fitsB idsL 20=true by decide);have hi:idR (prL w id)=id:=by unfold idR;rw[hv];rfl
 refine⟨?_,hi⟩;have hb:bv (prL w id) 0 idsL=false:=by
  have:=valR_snd (prL w id) 0 idsL false;rw[hv] at this
  simpa using this.symm
 cases w with
 | false=>
  have hf:∀ j:Nat,1≤j→Fl.ask (prL false id) (j:Int)=none:=fun j hj=>ask_far (by simp[prL];omega);have g1:Fl.ask (prL false id) 1=none:=hf 1 (by omega);have g2:Fl.ask (prL false id) 2=none:=hf 2 (by omega);have g3:Fl.ask (prL false id) 3=none:=hf 3 (by omega);have g4:Fl.ask (prL false id) 4=none:=hf 4 (by omega);have g5:Fl.ask (prL false id) 5=none:=hf 5 (by omega);have g6:Fl.ask (prL false id) 6=none:=hf 6 (by omega);have g7:Fl.ask (prL false id) 7=none:=hf 7 (by omega);have g8:Fl.ask (prL false id) 8=none:=hf 8 (by omega);have g9:Fl.ask (prL false id) 9=none:=hf 9 (by omega);have g10:Fl.ask (prL false id) 10=none:=hf 10 (by omega);have g11:Fl.ask (prL false id) 11=none:=hf 11 (by omega);have g12:Fl.ask (prL false id) 12=none:=hf 12 (by omega);unfold prB;rw[hb,hi,b1_none g1,b1_none g2,b1_none g3,b1_none g4,bv_none g5,b1_none g6,b1_none g7,b1_none g8,b1_none g9,b1_none g10,b1_none g11,b1_none g12];rfl
 | true=>
  have g1:Fl.ask (prL true id) 1=some (.mk 19 0 ⟨#[117]⟩ []):=ask_there (j:=1) rfl (by omega);have g2:Fl.ask (prL true id) 2=some (.mk 20 0 ⟨#[115]⟩ []):=ask_there (j:=2) rfl (by omega);have g3:Fl.ask (prL true id) 3=some (.mk 20 0 ⟨#[115]⟩ []):=ask_there (j:=3) rfl (by omega);have g4:Fl.ask (prL true id) 4=some (.mk 20 0 ⟨#[115]⟩ []):=ask_there (j:=4) rfl (by omega);have g5:Fl.ask (prL true id) 5=some (.mk 6 1 ⟨#[]⟩ []):=ask_there (j:=5) rfl (by omega);have g6:Fl.ask (prL true id) 6=some (.mk 21 0 ⟨#[121]⟩ []):=ask_there (j:=6) rfl (by omega);have g7:Fl.ask (prL true id) 7=some (.mk 21 0 ⟨#[121]⟩ []):=ask_there (j:=7) rfl (by omega);have g8:Fl.ask (prL true id) 8=some (.mk 14 1 ⟨#[]⟩ []):=ask_there (j:=8) rfl (by omega);have g9:Fl.ask (prL true id) 9=some (.mk 14 2 ⟨#[]⟩ []):=ask_there (j:=9) rfl (by omega);have g10:Fl.ask (prL true id) 10=some (.mk 20 0 ⟨#[115]⟩ []):=ask_there (j:=10) rfl (by omega);have g11:Fl.ask (prL true id) 11=some (.mk 5 3 ⟨#[]⟩ []):=ask_there (j:=11) rfl (by omega);have g12:Fl.ask (prL true id) 12=some (.mk 20 0 ⟨#[115]⟩ []):=ask_there (j:=12) rfl (by omega);have q5:bv (prL true id) 5 idsL=false:=by
   have h1:=valR_snd (prL true id) 5 idsL false;have h2:valR (prL true id) 5 idsL false=(.mk 6 1 ⟨#[]⟩ [],false):=valR_yes g5 (show fitsB idsL 6=true by decide);rw[h2] at h1
   simpa using h1.symm
  unfold prB;rw[hb,hi,b1_ok g1,b1_ok g2,b1_ok g3,b1_ok g4,q5,b1_ok g6,b1_ok g7,b1_ok g8,b1_ok g9,b1_ok g10,b1_ok g11,b1_ok g12];rfl
def heV (w:Bool)(p ttl n:Nat):V:=secV 0 (.mk 22 0 ⟨#[]⟩ (heL w p ttl n))
def plV (w:Bool)(id:ByteArray):V:=secV 3 (.mk 22 0 ⟨#[]⟩ (prL w id))
theorem he_may {w:Bool}{p ttl n:Nat}(hp:p < 256)(ht:ttl < 4294967296)(hn:n < 4294967296):mayL (heL w p ttl n)=true:=by
 cases w<;>simp[heL,mayL,mayB,aloneOk,emp0,numB,kidsOk,hp,ht,hn]
theorem text_s:textB 20 ⟨#[115]⟩=true:=by
 have h:utfB ⟨#[115]⟩=true:=utfB_yes ⟨[115],(fun x hx=>by simp at hx;subst hx;simp[isC]),rfl⟩;rw[text20];exact h
theorem more_may:mayL moreL=true:=by
 have h1:mayB (.mk 20 0 ⟨#[115]⟩ [])=true:=may_str text_s;have h2:mayB (.mk 19 0 ⟨#[117]⟩ [])=true:=may_bin _;have h3:mayB (.mk 21 0 ⟨#[121]⟩ [])=true:=may_symb (by decide +kernel);have h4:mayB (.mk 14 1 ⟨#[]⟩ [])=true:=by simp[mayB,mayL,aloneOk,emp0,numB,kidsOk]
 have h5:mayB (.mk 14 2 ⟨#[]⟩ [])=true:=by simp[mayB,mayL,aloneOk,emp0,numB,kidsOk]
 simp only[moreL,mayL,h1,h2,h3,h4,h5,may_ulong,may_u32 (n:=3) (by omega),Bool.and_self]
theorem pl_may {w:Bool}{id:ByteArray}(h:textB 20 id=true):mayL (prL w id)=true:=by
 cases w with
 | false=>simp only[prL,mayL,may_str h,Bool.and_self,if_neg Bool.false_ne_true]
 | true=>simp only[prL,mayL,may_str h,more_may,Bool.and_self,if_true]
theorem step_0n {s:St}{v x:V}{ls:List V}(h:sectR v=some (0,x))(hn:newR v 112 (mname 0)=some ls)(hb:hdB ls=true):stepM s v=none:=by
 unfold stepM;rw[h];simp only;by_cases hc:112+0 < s.last∨(112+0=s.last∧0≠5)
 ·rw[if_pos hc]
 ·rw[if_neg hc,if_pos trivial,hn];simp only;rw[if_pos hb]
theorem step_3n {s:St}{v x:V}{ls:List V}(h:sectR v=some (3,x))(hn:newR v 115 (mname 3)=some ls)(hb:prB ls=true):stepM s v=none:=by
 unfold stepM;rw[h];simp only;by_cases hc:112+3 < s.last∨(112+3=s.last∧3≠5)
 ·rw[if_pos hc]
 ·rw[if_neg hc,if_neg (by omega),if_pos trivial,hn];simp only;rw[if_pos hb]
theorem he_ok {w:Bool}{p ttl n:Nat}(hp:p < 256)(ht:ttl < 4294967296)(hn:n < 4294967296):okB (heV w p ttl n)=true∧Enc.Good (heV w p ttl n):=by
 have hm:=he_may (w:=w) hp ht hn;have hl:mayB (.mk 22 0 ⟨#[]⟩ (heL w p ttl n))=true:=may_list hm;refine⟨sec_ok 0 hl ?_ ?_,sec_gd (by omega) hl ⟨by omega,?_⟩ ?_⟩
 ·cases w<;>simp[heL,items,itemsL]
 ·cases w<;>simp[heL,depth,depthL]
 ·cases w<;>exact⟨⟨by omega,trivial⟩,⟨by omega,trivial⟩,⟨by omega,trivial⟩,⟨by omega,trivial⟩,⟨by omega,trivial⟩,trivial⟩
 ·cases w<;>simp[heL,bulk,bulkL,sz0]
theorem pl_ok {w:Bool}{id:ByteArray}(h:textB 20 id=true)(hs:id.size≤4096):okB (plV w id)=true∧Enc.Good (plV w id):=by
 have hl:mayB (.mk 22 0 ⟨#[]⟩ (prL w id))=true:=may_list (pl_may h);refine⟨sec_ok 3 hl ?_ ?_,sec_gd (by omega) hl ⟨by omega,?_⟩ ?_⟩
 ·cases w<;>simp[prL,moreL,items,itemsL]
 ·cases w<;>simp[prL,moreL,depth,depthL]
 ·cases w
  ·exact⟨⟨by omega,trivial⟩,trivial⟩
  ·exact⟨⟨by omega,trivial⟩,⟨by omega,trivial⟩,⟨by omega,trivial⟩,⟨by omega,trivial⟩,⟨by omega,trivial⟩,⟨by omega,trivial⟩,⟨by omega,trivial⟩,⟨by omega,trivial⟩,⟨by omega,trivial⟩,⟨by omega,trivial⟩,⟨by omega,trivial⟩,⟨by omega,trivial⟩,⟨by omega,trivial⟩,trivial⟩
 ·have z1:(⟨#[117]⟩:ByteArray).size=1:=rfl;have z2:(⟨#[115]⟩:ByteArray).size=1:=rfl;have z3:(⟨#[121]⟩:ByteArray).size=1:=rfl;cases w
  ·simp only[prL,bulk,bulkL,sz0,if_neg Bool.false_ne_true];omega
  ·simp only[prL,moreL,bulk,bulkL,sz0,z1,z2,z3,if_true];omega
theorem pl_not {w:Bool}{id:ByteArray}(h:textB 20 id=false):okB (plV w id)=false:=by
 cases hk:okB (plV w id) with
 | false=>rfl
 | true=>
  have hm:=may_of_ok hk;have h1:mayB (.mk 20 0 id [])=true:=by
   simp only[plV,secV,prL,mayB,mayL,Bool.and_eq_true] at hm ⊢
   simp_all
  rw[str_may h1] at h;cases h
theorem get_heads {w:Bool}{p ttl n:Nat}{id:ByteArray}{b:List Nat}(hp:p < 256)(ht:ttl < 4294967296)(hn:n < 4294967296)(h:textB 20 id=true)(hs:id.size≤4096)(hb:∀ x∈b,x < 256)(hl:b.length≤2048) :
  getM (layL [heV w p ttl n,plV w id,daV b])=if 9 < p∨64 < id.size then none else some ⟨p,ttl,n,id,b⟩:=by
 obtain⟨o1,g1⟩:=he_ok (w:=w) hp ht hn;obtain⟨o2,g2⟩:=pl_ok (w:=w) h hs;rw[getM_lay fun v hv=>by
  simp only[List.mem_cons,List.not_mem_nil,or_false] at hv;rcases hv with rfl | rfl | rfl
  ·exact⟨g1,o1⟩
  ·exact⟨g2,o2⟩
  ·exact⟨da_good (by omega),da_ok b⟩]
 have s1:sectR (heV w p ttl n)=some (0,.mk 22 0 ⟨#[]⟩ (heL w p ttl n)):=sect_sec (by omega) _;have s2:sectR (plV w id)=some (3,.mk 22 0 ⟨#[]⟩ (prL w id)):=sect_sec (by omega) _;have n1:newR (heV w p ttl n) 112 (mname 0)=some (heL w p ttl n):=(sec_new (k:=0) o1).trans (if_pos rfl);have n2:newR (plV w id) 115 (mname 3)=some (prL w id):=(sec_new (k:=3) o2).trans (if_pos rfl);obtain⟨r0,r1,r2,r3⟩:=he_read w p ttl n;obtain⟨q0,q1⟩:=pl_read w id;by_cases h9:9 < p
 ·rw[if_pos (.inl h9)]
  show (match (match stepM s0 (heV w p ttl n) with
   | none=>none
   | some s'=>foldM s' [plV w id,daV b]) with
   | none=>none
   | some s=>finM s)=_
  rw[step_0n s1 n1 (by rw[r0];exact decide_eq_true h9)]
 ·have t1:stepM s0 (heV w p ttl n)=some ⟨⟨p,ttl,n,⟨#[]⟩,[]⟩,112,false⟩:=by
   rw[step_0 s1 (by decide) n1 (by rw[r0];exact decide_eq_false h9),r1,r2,r3];rfl
  by_cases h64:64 < id.size
  ·rw[if_pos (.inr h64)]
   show (match (match stepM s0 (heV w p ttl n) with
    | none=>none
    | some s'=>foldM s' [plV w id,daV b]) with
    | none=>none
    | some s=>finM s)=_
   rw[t1]
   show (match (match stepM ⟨⟨p,ttl,n,⟨#[]⟩,[]⟩,112,false⟩ (plV w id) with
    | none=>none
    | some s'=>foldM s' [daV b]) with
    | none=>none
    | some s=>finM s)=_
   rw[step_3n s2 n2 (by rw[q0];exact decide_eq_true h64)]
  ·rw[if_neg (by omega)];have t2:stepM ⟨⟨p,ttl,n,⟨#[]⟩,[]⟩,112,false⟩ (plV w id)=some ⟨⟨p,ttl,n,id,[]⟩,115,false⟩:=by
    rw[step_3 s2 (by show 112 < 115;omega) n2 (by rw[q0];exact decide_eq_false h64),q1]
   have t3:stepM ⟨⟨p,ttl,n,id,[]⟩,115,false⟩ (daV b)=some ⟨⟨p,ttl,n,id,b⟩,117,true⟩:=by
    rw[step_5 (sect_da b) (by show 115≤117;omega) rfl];have e:(V.mk 19 0 (sb b) []).text=sb b:=rfl;rw[e,tb_sb hb];rfl
   have hf:foldM s0 [heV w p ttl n,plV w id,daV b]=some ⟨⟨p,ttl,n,id,b⟩,117,true⟩:=by
    show (match stepM s0 (heV w p ttl n) with
     | none=>none
     | some s'=>foldM s' [plV w id,daV b])=_
    rw[t1]
    show (match stepM ⟨⟨p,ttl,n,⟨#[]⟩,[]⟩,112,false⟩ (plV w id) with
     | none=>none
     | some s'=>foldM s' [daV b])=_
    rw[t2];exact fold_one t3
   rw[hf]
   show finM ⟨⟨p,ttl,n,id,b⟩,117,true⟩=_
   rw[fin_true,if_pos hl]
end Go.Proofs.YtcilmmdmkpnppaaGreatDoor.Me
end
section
namespace Go.Proofs.YtcilmmdmkpnppaaGreatDoor.Me
set_option maxRecDepth 100000
open Go.RowKit Utf Val Fl V
def BxH (w:World)(g:Nat)(x0 x1 x2 x3 x4:Value):Prop:=w.heap[g]? = some (.cells #[x0,x1,x2,x3,x4] 40 (0,0))
section
variable {w w':World} {g:Nat} {x0 x1 x2 x3 x4:Value}
theorem BxH.lt (h:BxH w g x0 x1 x2 x3 x4):g < w.heap.size:=(Array.getElem?_eq_some_iff.1 h).1
theorem BxH.new (w:World)(x0 x1 x2 x3 x4:Value):BxH (w.alloc (.cells #[x0,x1,x2,x3,x4] 40)) w.heap.size x0 x1 x2 x3 x4:=heap_alloc_new w _
theorem BxH.call (h:BxH w g x0 x1 x2 x3 x4)(hb:Below w.heap.size w w'):BxH w' g x0 x1 x2 x3 x4:=(hb.block g h.lt).trans h
theorem BxH.all (h:BxH w g x0 x1 x2 x3 x4):w.cell? ⟨g,0,none⟩=some x0∧w.cell? ⟨g,1,none⟩=some x1∧w.cell? ⟨g,2,none⟩=some x2∧w.cell? ⟨g,3,none⟩=some x3∧w.cell? ⟨g,4,none⟩=some x4:=
 ⟨cell_of_row w g 0 _ _ _ h,cell_of_row w g 1 _ _ _ h,cell_of_row w g 2 _ _ _ h,cell_of_row w g 3 _ _ _ h,cell_of_row w g 4 _ _ _ h⟩
end
def c4 (v:Nat×Nat×ByteArray):List Value:=[.int .u8 (v.1:Int),.int .u64 (v.2.1:Int),.string v.2.2,.slice none 0 0]
def fl4:List (Nat×Nat×ByteArray)→List Value
 | []=>[]
 | v::l=>c4 v++fl4 l
def v4 (v:Nat×Nat×ByteArray):V:=.mk v.1 v.2.1 v.2.2 []
theorem fl4_at:∀ (l:List (Nat×Nat×ByteArray)) (i r:Nat) (v:Nat×Nat×ByteArray),l[i]? = some v→r < 4→(fl4 l)[i * 4+r]? = (c4 v)[r]?
 | [],i,_,_,h,_=>by simp at h
 | x::l,0,r,v,h,hr=>by
  simp only[List.getElem?_cons_zero,Option.some.injEq] at h;subst h
  show (c4 x++fl4 l)[0 * 4+r]? = _
  rw[Nat.zero_mul,Nat.zero_add,List.getElem?_append_left (by show r < 4;exact hr)]
 | x::l,i+1,r,v,h,hr=>by
  have h2:l[i]? = some v:=by simpa using h
  show (c4 x++fl4 l)[(i+1) * 4+r]? = _
  rw[List.getElem?_append_right (by show 4≤_;omega)];rw[show (i+1) * 4+r - (c4 x).length=i * 4+r by show (i+1) * 4+r - 4=_;omega];exact fl4_at l i r v h2 hr
def Row4 (w:World)(g:Nat)(l:List (Nat×Nat×ByteArray)):Prop:=w.heap[g]? = some (.cells (fl4 l).toArray 44 (0,0))
section
variable {w w':World} {g:Nat} {l:List (Nat×Nat×ByteArray)}
theorem Row4.lt (h:Row4 w g l):g < w.heap.size:=(Array.getElem?_eq_some_iff.1 h).1
theorem Row4.call (h:Row4 w g l)(hb:Below w.heap.size w w'):Row4 w' g l:=(hb.block g h.lt).trans h
theorem Row4.cell (h:Row4 w g l)(j:Nat):w.cell? ⟨g,j,none⟩=(fl4 l)[j]?:=by
 unfold Row4 at h;simp[World.cell?,h]
theorem Row4.frozen (h:Row4 w g l)(j:Nat):w.frozen? ⟨g,j,none⟩=false:=by
 unfold Row4 at h;simp[World.frozen?,h]
theorem Row4.kd (h:Row4 w g l)(hl:∀ v∈l,v.1 < 256∧v.2.1 < 18446744073709551616):Kd w (l.map v4) (some ⟨g,0,none⟩) l.length l.length:=by
 refine⟨by simp,Nat.le_refl _,fun _=>⟨g,0,rfl,h.lt,(fun h=>by cases h),rowL_mk fun i v hi=>?_⟩⟩;obtain⟨x,hx,rfl⟩:∃ x,l[i]? = some x∧v4 x=v:=by
  rw[List.getElem?_map] at hi;cases hx:l[i]? with
  | none=>rw[hx] at hi;cases hi
  | some x=>rw[hx] at hi;exact⟨x,rfl,by simpa using hi⟩
 have hm:=hl x (List.mem_of_getElem? hx);rw[Nat.zero_add];have e:=fun r (hr:r < 4)=>(h.cell (i * 4+r)).trans (fl4_at l i r x hx hr);exact repV_iff.2 ⟨none,0,0,e 0 (by omega),e 1 (by omega),e 2 (by omega),e 3 (by omega),hm.1,hm.2,Val.Kids.none_ _ _ _ _ _⟩
end
end Go.Proofs.YtcilmmdmkpnppaaGreatDoor.Me
end
section
namespace Go.Proofs.YtcilmmdmkpnppaaGreatDoor.Me
set_option maxRecDepth 100000
open Go.RowKit Utf Val Fl V
open Enc (lay plan)
theorem sz1 (a:UInt8):ByteArray.size ⟨#[a]⟩=1:=rfl
theorem heL_bulk (q:Bool)(p e n:Nat):bulkL (heL q p e n)≤64:=by
 cases q<;>simp[heL,bulkL,bulk,sz0]
theorem moreL_bulk:bulkL moreL≤64:=by
 simp[moreL,bulkL,bulk,sz0,sz1]
theorem prL_bulk (q:Bool)(s:ByteArray)(h:s.size≤200):bulkL (prL q s)≤300:=by
 have:=moreL_bulk;cases q<;>simp[prL,bulkL,bulk]<;>omega
theorem heV_eq (q:Bool)(p e n:Nat):heV q p e n=.mk 25 0 ⟨#[]⟩ (putL 112 (trim (heL q p e n))):=by rw[he_trim];rfl
theorem plV_eq (q:Bool)(s:ByteArray):plV q s=.mk 25 0 ⟨#[]⟩ (putL 115 (trim (prL q s))):=by rw[pr_trim];rfl
theorem heV_bulk (q:Bool)(p e n:Nat):bulk (heV q p e n)≤4096:=by
 have:=heL_bulk q p e n;simp[heV,secV,bulk,bulkL,sz0];omega
theorem plV_bulk (q:Bool)(s:ByteArray)(h:s.size≤200):bulk (plV q s)≤4096:=by
 have:=prL_bulk q s h;simp[plV,secV,bulk,bulkL,sz0];omega
theorem kd_two (w:World)(g:Nat)(hg:w.heap.size=g){ks1 ks2:List V}{A1 A2:Option Addr}{l1 c1 l2 c2:Nat}(h1:Kd w ks1 A1 l1 c1)(h2:Kd w ks2 A2 l2 c2) :
  Kd (w.alloc (.cells #[.int .u8 25,.int .u64 0,.string ⟨#[]⟩,.slice A1 l1 c1,.int .u8 25,.int .u64 0,.string ⟨#[]⟩,.slice A2 l2 c2] 44)) [.mk 25 0 ⟨#[]⟩ ks1,.mk 25 0 ⟨#[]⟩ ks2] (some ⟨g,0,none⟩) 2 2:=by
 subst hg;have hc:∀ j,(w.alloc (.cells #[.int .u8 25,.int .u64 0,.string ⟨#[]⟩,.slice A1 l1 c1,.int .u8 25,.int .u64 0,.string ⟨#[]⟩,.slice A2 l2 c2] 44)).cell? ⟨w.heap.size,j,none⟩=#[Value.int .u8 25,.int .u64 0,.string ⟨#[]⟩,.slice A1 l1 c1,.int .u8 25,.int .u64 0,.string ⟨#[]⟩,.slice A2 l2 c2][j]?:=fun j=>World.cell?_alloc_at _ _ _ _ rfl;refine⟨rfl,Nat.le_refl _,fun _=>⟨w.heap.size,0,rfl,by simp,(fun h=>by cases h),?_⟩⟩;exact⟨repV_iff.2 ⟨A1,l1,c1,hc 0,hc 1,hc 2,hc 3,by omega,by omega,h1.alloc _⟩,repV_iff.2 ⟨A2,l2,c2,hc 4,hc 5,hc 6,hc 7,by omega,by omega,h2.alloc _⟩,trivial⟩
theorem le_lay2 {v:V}{m:Nat}(h:(lay (plan v)).length=m)(hm:okB v=true)(hb:bulk v≤4096):m≤409600:=le_lay h (Enc.ok_may hm) hb
theorem hc_set {w:World}{g j:Nat}{cs:Array Value}{T:TypeId}{v:Value}(h:w.heap[g]? = some (.cells cs T (0,0))):(w.setCell ⟨g,j,none⟩ v).heap[g]? = some (.cells (cs.setIfInBounds j v) T (0,0)):=by
 rw[setCell_eq_setRow w g j _ _ _ _ h,setRow_heap w g _ _ _ _ h]
theorem Row4.set4 {w:World}{g:Nat}{l l':List (Nat×Nat×ByteArray)}(h:Row4 w g l)(j:Nat)(a b c d:Value)(he:((((fl4 l).toArray.setIfInBounds j a).setIfInBounds (j+1) b).setIfInBounds (j+2) c).setIfInBounds (j+3) d=(fl4 l').toArray) :
  Row4 ((((w.setCell ⟨g,j,none⟩ a).setCell ⟨g,j+1,none⟩ b).setCell ⟨g,j+2,none⟩ c).setCell ⟨g,j+3,none⟩ d) g l':=by
 unfold Row4 at h ⊢;rw[←he];exact hc_set (hc_set (hc_set (hc_set h)))
theorem fl4_one:∀ (l:List (Nat×Nat×ByteArray)),∀ u∈fl4 l,u.oneCell'=true
 | [],u,h=>by cases h
 | v::l,u,h=>by
  rcases List.mem_append.1 h with h | h
  ·simp[c4] at h;rcases h with rfl | rfl | rfl | rfl<;>rfl
  ·exact fl4_one l u h
theorem fl4_cells {w:World}{P:Nat→Prop}:∀ (l:List (Nat×Nat×ByteArray)),(∀ v∈l,v.1 < 256∧v.2.1 < 18446744073709551616)→CellsOf w P (l.map v4) (fl4 l)
 | [],_=>rfl
 | v::l,h=>⟨none,0,0,fl4 l,rfl,(h v (by simp)).1,(h v (by simp)).2,Val.Kids.none_ _ _ _ _ _,fl4_cells l fun x hx=>h x (List.mem_cons_of_mem _ hx)⟩
theorem news_of (w:World)(cs:List Value)(e:TypeId)(H:Nat)(hH:w.heap.size=H):∀ j v,cs[j]? = some v→(w.alloc (.cells cs.toArray e)).cell? ((⟨H,0,none⟩:Addr).add j)=some v:=by
 subst hH;intro j v hv;have hb:(w.alloc (.cells cs.toArray e)).heap[w.heap.size]? = some (.cells cs.toArray e (0,0)):=heap_alloc_new w _;rw[show Addr.add ⟨w.heap.size,0,none⟩ j=⟨w.heap.size,j,none⟩ by simp[Addr.add];exact fun h=>h.symm,cell_of_row _ _ j _ _ _ hb]
 simpa using hv
def TW:List (Nat×Nat×ByteArray):=[(19,0,⟨#[117]⟩),(20,0,⟨#[115]⟩),(20,0,⟨#[115]⟩),(20,0,⟨#[115]⟩),(6,1,⟨#[]⟩),(21,0,⟨#[121]⟩),(21,0,⟨#[121]⟩),(14,1,⟨#[]⟩),(14,2,⟨#[]⟩),(20,0,⟨#[115]⟩),(5,3,⟨#[]⟩),(20,0,⟨#[115]⟩)]
theorem kd_pr {B:Nat}{w:World}{g cap:Nat}{s:ByteArray}(h:w.ownsRow B 44 4 (.slice (some ⟨g,0,none⟩) 13 cap) 13 (fl4 [(20,0,s)]++fl4 TW)):Kd w (prL true s) (some ⟨g,0,none⟩) 13 cap:=
 (show CS B w (some ⟨g,0,none⟩) 13 cap (((20,0,s)::TW).map v4) (fl4 ((20,0,s)::TW)) from ⟨h,fl4_cells _ (by simp[TW])⟩).nw.kd
theorem own_one {w:World}{B:Nat}(s:ByteArray)(hB:B≤w.heap.size):(w.alloc (.cells #[.int .u8 20,.int .u64 0,.string s,.slice none 0 0] 44)).ownsRow B 44 4 (.slice (some ⟨w.heap.size,0,none⟩) 1 1) 1 (fl4 [(20,0,s)]):=
 World.ownsRow_lit (base:=B) (e:=44) (size:=4) w #[.int .u8 20,.int .u64 0,.string s,.slice none 0 0] 1 hB (by unfold maxLen;omega) rfl
theorem own_offh {w:World}{base:Nat}{e:TypeId}{size n:Nat}{v:Value}{xs:List Value}(h:w.ownsRow base e size v n xs){g j:Nat}(hp:v.ownBlock≠some g)(u:Value):(w.setCell ⟨g,j,none⟩ u).ownsRow base e size v n xs:=own_far (p:=⟨g,j,none⟩) h hp u
theorem wr4 {W3 w Wa:World}{g8:Nat}(j:Nat){l:List (Nat×Nat×ByteArray)}(l':List (Nat×Nat×ByteArray)){v:Value}{n:Nat}{xs:List Value}(hr:Row4 w g8 l)(ho:w.ownsRow W3.heap.size 44 4 v n xs)(hne:v.ownBlock≠some g8)(hb:Below W3.heap.size W3 w)(hg:W3.heap.size≤g8)(a b c d:Value)
  (he:((((fl4 l).toArray.setIfInBounds j a).setIfInBounds (j+1) b).setIfInBounds (j+2) c).setIfInBounds (j+3) d=(fl4 l').toArray) (hW:((((w.setCell ⟨g8,j,none⟩ a).setCell ⟨g8,j+1,none⟩ b).setCell ⟨g8,j+2,none⟩ c).setCell ⟨g8,j+3,none⟩ d)=Wa) :
  Row4 Wa g8 l'∧Wa.ownsRow W3.heap.size 44 4 v n xs∧Below W3.heap.size W3 Wa:=by
 subst hW;exact⟨hr.set4 j a b c d he,own_offh (own_offh (own_offh (own_offh ho hne _) hne _) hne _) hne _,(((hb.setCell (p:=⟨g8,j,none⟩) hg _).setCell (p:=⟨g8,j+1,none⟩) hg _).setCell (p:=⟨g8,j+2,none⟩) hg _).setCell (p:=⟨g8,j+3,none⟩) hg _⟩
theorem own_call {w w':World}{B:Nat}{e:TypeId}{size n:Nat}{v:Value}{xs:List Value}(h:w.ownsRow B e size v n xs)(hb:Below w.heap.size w w'):w'.ownsRow B e size v n xs:=h.kept (grown_of_below hb) (by cases hv:v.ownBlock<;>simp)
theorem box_grown {w w':World}{g gr:Nat}{x0 x1 x2 x3:Value}(hb:Box w g x0 x1 x2 x3)(hg:w.grownBy w' (some gr))(hne:g≠gr):Box w' g x0 x1 x2 x3:=(hg.block g hb.lt (fun e=>hne (by injection e))).trans hb
theorem row4_grown {w w':World}{g gr:Nat}{l:List (Nat×Nat×ByteArray)}(hb:Row4 w g l)(hg:w.grownBy w' (some gr))(hne:g≠gr):Row4 w' g l:=(hg.block g hb.lt (fun e=>hne (by injection e))).trans hb
theorem held13 {w5 w13:World}{o:Obj}{g3 g10 g9:Nat}{a0 a1 a2 a3 b0 b1 b2 b3:Value}(h3:Box w5 g3 a0 a1 a2 a3)(h10:Box w5 g10 b0 b1 b2 b3)(hg:(w5.alloc o).grownBy w13 (Value.slice (some ⟨g9,0,none⟩) 1 1).ownBlock)(n3:g3≠g9)(n10:g10≠g9) :
  (w13.cell? ⟨g3,0,none⟩=some a0∧w13.cell? ⟨g3,1,none⟩=some a1∧w13.cell? ⟨g3,2,none⟩=some a2∧w13.cell? ⟨g3,3,none⟩=some a3∧∀ i,w13.frozen? ⟨g3,i,none⟩=false)∧(w13.cell? ⟨g10,0,none⟩=some b0∧w13.cell? ⟨g10,1,none⟩=some b1∧w13.cell? ⟨g10,2,none⟩=some b2∧w13.cell? ⟨g10,3,none⟩=some b3∧∀ i,w13.frozen? ⟨g10,i,none⟩=false):=
 ⟨(box_grown (h3.alloc o) hg n3).all,(box_grown (h10.alloc o) hg n10).all⟩
theorem heads_len {q:Bool}{p e n:Nat}{s:ByteArray}(hs:s.size≤200)(h1:okB (heV q p e n)=true)(h2:okB (plV q s)=true):(layL [heV q p e n,plV q s]).length≤60000:=by
 have a1:=Enc.lay_bulk _ (Enc.ok_may h1);have a2:=Enc.lay_bulk _ (Enc.ok_may h2);have b1:bulk (heV q p e n)≤128:=by
  have:=heL_bulk q p e n;simp[heV,secV,bulk,bulkL,sz0];omega
 have b2:bulk (plV q s)≤400:=by
  have:=prL_bulk q s hs;simp[plV,secV,bulk,bulkL,sz0];omega
 show (lay (plan (heV q p e n))++(lay (plan (plV q s))++[])).length≤_
 rw[List.append_nil,List.length_append];omega
theorem heads_lay (q:Bool)(p e n:Nat)(s:ByteArray)(b:List Nat):layL [heV q p e n,plV q s]++lay (plan (daV b))=layL [heV q p e n,plV q s,daV b]:=by
 show (lay (plan (heV q p e n))++(lay (plan (plV q s))++[]))++lay (plan (daV b))=lay (plan (heV q p e n))++(lay (plan (plV q s))++(lay (plan (daV b))++[]))
 simp only[List.append_nil,List.append_assoc]
theorem heads_no {q:Bool}{p e n:Nat}{s:ByteArray}{b:List Nat}{A:Option Addr}{m c base:Nat}{w:World}(hp:p < 256)(he:e < 4294967296)(hn:n < 4294967296)(h:textB 20 s=true)(hs:s.size≤200)(hb:∀ x∈b,x < 256)(hl:b.length≤200)(hbad:9 < p∨64 < s.size)(hO:Utf.Own .u8 256 5 w base A m c (layL [heV q p e n,plV q s]++lay (plan (daV b))))(hm:m≤262143)(hTab:Tab w):Calls Tryz.prog 14 #[.slice A m c] w (GivesGet none w):=by
 rw[heads_lay] at hO;refine get_no A m c base w hO hm hTab ?_;rw[get_heads hp he hn h (by omega) hb (by omega),if_pos hbad]
theorem heads_yes {q:Bool}{p e n:Nat}{s:ByteArray}{b:List Nat}{A:Option Addr}{m c base:Nat}{w:World}(hp:p < 256)(he:e < 4294967296)(hn:n < 4294967296)(h:textB 20 s=true)(hs:s.size≤200)(hb:∀ x∈b,x < 256)(hl:b.length≤200)(hbad:¬ (9 < p∨64 < s.size))(hO:Utf.Own .u8 256 5 w base A m c (layL [heV q p e n,plV q s]++lay (plan (daV b))))(hm:m≤262143)(hTab:Tab w):Calls Tryz.prog 14 #[.slice A m c] w (GivesM p e n s b w):=by
 rw[heads_lay] at hO;have:=mget_any A m c _ w hO.rd hO.cap.1 hm hTab;rw[get_heads hp he hn h (by omega) hb (by omega),if_neg hbad] at this;exact this
end Go.Proofs.YtcilmmdmkpnppaaGreatDoor.Me
end
section
namespace Go.Proofs.YtcilmmdmkpnppaaGreatDoor.messageHeads
set_option maxRecDepth 100000
open Go.RowKit Utf Val Fl Dec Me V
open Enc (lay plan)
theorem bool_t (w:World):Calls Tryz.prog 18 #[.bool true] w (fun e w'=>e=.returned (.agg #[.int .u8 2,.int .u64 1,.string ⟨#[]⟩,.slice none 0 0])∧Below w.heap.size w w'):=bool_any true w
theorem num3 (n:Nat)(w:World):Calls Tryz.prog 20 #[.int .u8 3,.int .u64 (n:Int)] w (fun e w'=>e=.returned (.agg #[.int .u8 3,.int .u64 (n:Int),.string ⟨#[]⟩,.slice none 0 0])∧Below w.heap.size w w'):=Val.number_any 3 n w
theorem num5 (n:Nat)(w:World):Calls Tryz.prog 20 #[.int .u8 5,.int .u64 (n:Int)] w (fun e w'=>e=.returned (.agg #[.int .u8 5,.int .u64 (n:Int),.string ⟨#[]⟩,.slice none 0 0])∧Below w.heap.size w w'):=Val.number_any 5 n w
theorem num61 (w:World):Calls Tryz.prog 20 #[.int .u8 6,.int .u64 1] w (fun e w'=>e=.returned (.agg #[.int .u8 6,.int .u64 1,.string ⟨#[]⟩,.slice none 0 0])∧Below w.heap.size w w'):=Val.number_any 6 1 w
theorem num141 (w:World):Calls Tryz.prog 20 #[.int .u8 14,.int .u64 1] w (fun e w'=>e=.returned (.agg #[.int .u8 14,.int .u64 1,.string ⟨#[]⟩,.slice none 0 0])∧Below w.heap.size w w'):=Val.number_any 14 1 w
theorem num142 (w:World):Calls Tryz.prog 20 #[.int .u8 14,.int .u64 2] w (fun e w'=>e=.returned (.agg #[.int .u8 14,.int .u64 2,.string ⟨#[]⟩,.slice none 0 0])∧Below w.heap.size w w'):=Val.number_any 14 2 w
theorem num53 (w:World):Calls Tryz.prog 20 #[.int .u8 5,.int .u64 3] w (fun e w'=>e=.returned (.agg #[.int .u8 5,.int .u64 3,.string ⟨#[]⟩,.slice none 0 0])∧Below w.heap.size w w'):=Val.number_any 5 3 w
theorem sym_new (t:ByteArray)(w:World):Calls Tryz.prog 19 #[.int .u8 21,.string t] w (fun e w'=>e=.returned (.agg #[.int .u8 21,.int .u64 0,.string t,.slice none 0 0])∧Below w.heap.size w w'):=text_any' 21 t w
structure HS (w W:World) (p e n:Nat) (s:ByteArray) (q:Bool) (g1 g2 g3:Nat) (A:Option Addr) (l:Nat) (b:List Nat):Prop where
 bx:BxH W w.heap.size (.int .u8 (p:Int)) (.int .u32 (e:Int)) (.int .u32 (n:Int)) (.string s) (.bool q)
 nul:Box W g1 (.int .u8 1) (.int .u64 0) (.string ⟨#[]⟩) (.slice none 0 0)
 yes:Box W g2 (.int .u8 2) (.int .u64 1) (.string ⟨#[]⟩) (.slice none 0 0)
 str:Box W g3 (.int .u8 20) (.int .u64 0) (.string ⟨#[115]⟩) (.slice none 0 0)
 rd:Rd .u8 256 W W.heap.size A l b
 tab:Tab W
 low:Below w.heap.size w W
section
variable {w W W':World} {p e n:Nat} {s:ByteArray} {q:Bool} {g1 g2 g3:Nat} {A:Option Addr} {l:Nat} {b:List Nat}
theorem HS.call (h:HS w W p e n s q g1 g2 g3 A l b)(hb:Below W.heap.size W W'):HS w W' p e n s q g1 g2 g3 A l b:=⟨h.bx.call hb,h.nul.call hb,h.yes.call hb,h.str.call hb,h.rd.call hb,h.tab.call hb,below_next h.low hb⟩
end
set_option maxHeartbeats 2000000 in
theorem walk (p e n:Nat)(s:ByteArray)(q:Bool)(A:Option Addr)(l c:Nat)(b:List Nat)(w:World)(hTab:Tab w)(hp:p < 256)(he:e < 4294967296)(hn:n < 4294967296)(hr:Rd .u8 256 w w.heap.size A l b)(_hc:l≤c) :
  Calls Tryz.prog 5 #[.agg #[.int .u8 (p:Int),.int .u32 (e:Int),.int .u32 (n:Int),.string s,.bool q],.slice A l c] w (GivesB true w):=by
 have hb0:Below w.heap.size w (w.alloc (.cells #[.int .u8 (p:Int),.int .u32 (e:Int),.int .u32 (n:Int),.string s,.bool q] 40)):=(Below.refl _ _).alloc (Nat.le_refl _) _;have HB0:=Lib.hid hb0;have HX0:=Lib.hid (BxH.new w (.int .u8 (p:Int)) (.int .u32 (e:Int)) (.int .u32 (n:Int)) (.string s) (.bool q));have HR0:=Lib.hid (hr.call hb0);have HT0:=Lib.hid (hTab.call hb0);have HLB:=Lib.hid hr.len;have HBY:Hid (∀ x∈b,x < 256):=Lib.hid (fun x hx=>hr.lim x hx);have HWK:=Lib.hid (fun wx (h:Tab wx)=>works10_any wx h);have HP:=Lib.hid hp;have HE:=Lib.hid he;have HN:=Lib.hid hn;have hpw:IntKind.u64.wrap (p:Int)=(p:Int):=by rw[IntKind.wrap_u64];omega
 have hew:IntKind.u64.wrap (e:Int)=(e:Int):=by rw[IntKind.wrap_u64];omega
 have hnw:IntKind.u64.wrap (n:Int)=(n:Int):=by rw[IntKind.wrap_u64];omega
 obtain⟨x0,x1,x2,x3,x4⟩:=HX0.out.all;clear hb0 hr hTab hp he hn;by_cases hbig:200 < s.size∨200 < l
 case pos=>
  by_cases h12:200 < s.size
  ·have hd:decide ((200:Int) < (s.size:Int))=true:=decide_eq_true (by omega);go_enter Tryz.func5,Tryz.ntmps5;go_wp2_with (go_at_call 7;(with_reducible refine(HWK.out _ HT0.out).mono ?_);rintro e w2 ⟨rfl,hb2⟩);go_ret;exact⟨rfl,below_next HB0.out hb2⟩
  ·have hd:decide ((200:Int) < (s.size:Int))=false:=decide_eq_false (by omega);have h100:200 < l:=by omega
   have hd2:decide ((200:Int) < (l:Int))=true:=decide_eq_true (by omega);go_enter Tryz.func5,Tryz.ntmps5;go_wp2_with (go_at_call 7;(with_reducible refine(HWK.out _ HT0.out).mono ?_);rintro e w2 ⟨rfl,hb2⟩);go_ret;exact⟨rfl,below_next HB0.out hb2⟩
 case neg=>
  have hs200:s.size≤200:=by omega
  have hl200:l≤200:=by omega
  have hd:decide ((200:Int) < (s.size:Int))=false:=decide_eq_false (by omega);have hd2:decide ((200:Int) < (l:Int))=false:=decide_eq_false (by omega);clear hbig;have HS200:=Lib.hid hs200;have HL200:=Lib.hid hl200;clear hs200 hl200;go_enter Tryz.func5,Tryz.ntmps5;go_upto_region 6 with (first
   | (go_at_call 19;(with_reducible refine(str_new ⟨#[115]⟩ _).mono ?_);rintro _ w3 ⟨rfl,hb3⟩)
   | (go_at_call 18;(with_reducible refine(bool_t _).mono ?_);rintro _ w2 ⟨rfl,hb2⟩)
   | (go_at_call 17;(with_reducible refine(nul_new _).mono ?_);rintro _ w1 ⟨rfl,hb1⟩)
   | fail)
  have hB1:=hb1.alloc hb1.size (.cells #[.int .u8 1,.int .u64 0,.string ⟨#[]⟩,.slice none 0 0] 44);have hB2:=hb2.alloc hb2.size (.cells #[.int .u8 2,.int .u64 1,.string ⟨#[]⟩,.slice none 0 0] 44);have hB3:=hb3.alloc hb3.size (.cells #[.int .u8 20,.int .u64 0,.string ⟨#[115]⟩,.slice none 0 0] 44);have hS:HS w (w3.alloc (.cells #[.int .u8 20,.int .u64 0,.string ⟨#[115]⟩,.slice none 0 0] 44)) p e n s q w1.heap.size w2.heap.size w3.heap.size A l b:=
   ⟨((HX0.out.call hB1).call hB2).call hB3,(((Box.new w1 (.int .u8 1) (.int .u64 0) (.string ⟨#[]⟩) (.slice none 0 0)).call hB2).call hB3),((Box.new w2 (.int .u8 2) (.int .u64 1) (.string ⟨#[]⟩) (.slice none 0 0)).call hB3),Box.new w3 _ _ _ _,((HR0.out.call hB1).call hB2).call hB3,((HT0.out.call hB1).call hB2).call hB3,below_next (below_next (below_next HB0.out hB1) hB2) hB3⟩
  clear HX0 HR0 HT0 HB0 hB1 hB2 hB3 hb1 hb2 hb3 x0 x1 x2 x3 x4 hd hd2;generalize w3.alloc (.cells #[.int .u8 20,.int .u64 0,.string ⟨#[115]⟩,.slice none 0 0] 44)=W3 at hS ⊢;generalize w1.heap.size=g1 at hS ⊢;generalize w2.heap.size=g2 at hS ⊢;generalize w3.heap.size=g3 at hS ⊢;have HS3:=Lib.hid hS;clear hS;have hb0:Below W3.heap.size W3 W3.drew:=(Below.refl _ _).drew;have HCE:=Lib.hid (fun wx (h:Below W3.heap.size W3 wx)=>And.intro (HS3.out.bx.call h).all (And.intro (HS3.out.nul.call h).all h));go_cut [8] from 18 (fun s8 wx=>∃ g8,s8=.slice (some ⟨g8,0,none⟩) 5 5∧Row4 wx g8 [(1,0,⟨#[]⟩),(3,p,⟨#[]⟩),(5,e,⟨#[]⟩),(1,0,⟨#[]⟩),(5,n,⟨#[]⟩)]∧W3.heap.size≤g8∧Below W3.heap.size W3 wx)
  case first=>
   go_region_held3 (fun wx=>((wx.cell? ⟨w.heap.size,0,none⟩=some (.int .u8 (p:Int))∧wx.cell? ⟨w.heap.size,1,none⟩=some (.int .u32 (e:Int))∧wx.cell? ⟨w.heap.size,2,none⟩=some (.int .u32 (n:Int))∧wx.cell? ⟨w.heap.size,3,none⟩=some (.string s)∧wx.cell? ⟨w.heap.size,4,none⟩=some (.bool q))∧(wx.cell? ⟨g1,0,none⟩=some (.int .u8 1)∧wx.cell? ⟨g1,1,none⟩=some (.int .u64 0)∧wx.cell? ⟨g1,2,none⟩=some (.string ⟨#[]⟩)∧wx.cell? ⟨g1,3,none⟩=some (.slice none 0 0)∧∀ i,wx.frozen? ⟨g1,i,none⟩=false)∧Below W3.heap.size W3 wx)) (with_reducible first | assumption | exact HCE.out _ hb0 | exact HCE.out _ hc1 | exact HCE.out _ hc2 | exact HCE.out _ hc3 | exact HCE.out _ (hc3.alloc hc3.size _) | fail)
    (first
    | (go_at_call 20;(with_reducible refine(num5 n _).mono ?_);rintro _ w6 ⟨rfl,hb6⟩;have hc3:=below_next hc2 hb6)
    | (go_at_call 20;(with_reducible refine(num5 e _).mono ?_);rintro _ w5 ⟨rfl,hb5⟩;have hc2:=below_next hc1 hb5)
    | (go_at_call 20;(with_reducible refine(num3 p _).mono ?_);rintro _ w4 ⟨rfl,hb4⟩;have hc1:=below_next hb0 hb4)
    | fail)
   all_goals
    go_wp2_with fail;go_meet;exact⟨_,rfl,heap_alloc_new _ _,hc3.size,hc3.alloc hc3.size _⟩
  case rest=>
   obtain⟨g8,rfl,hRow,hg8,hB4⟩:=hcut
   rename World=>W4
   have HS4:=Lib.hid (HS3.out.call hB4);have HROW:=Lib.hid hRow;have HG8:=Lib.hid hg8;have HB4:=Lib.hid hB4;have HPK:Hid (p < 256∧e < 18446744073709551616∧n < 18446744073709551616):=Lib.hid ⟨HP.out,by have:=HE.out;omega,by have:=HN.out;omega⟩;obtain⟨x0,x1,x2,x3,x4⟩:=(HS3.out.call hB4).bx.all;clear hRow hg8 hB4;go_upto_if 51 with (first
    | (go_at_call 19;(with_reducible refine(str_new s _).mono ?_);rintro _ w5 ⟨rfl,hb5⟩;obtain⟨x0,x1,x2,x3,x4⟩:=(HS4.out.call (hb5.alloc hb5.size (.cells #[.int .u8 20,.int .u64 0,.string s,.slice none 0 0] 44))).bx.all)
    | fail)
   have hB5:=hb5.alloc hb5.size (.cells #[.int .u8 20,.int .u64 0,.string s,.slice none 0 0] 44);have HS5:=Lib.hid (HS4.out.call hB5);have HROW5:=Lib.hid (HROW.out.call hB5);have HB5:=Lib.hid (below_next HB4.out hB5);have HROW9:Hid (Row4 (w5.alloc (.cells #[.int .u8 20,.int .u64 0,.string s,.slice none 0 0] 44)) w5.heap.size [(20,0,s)]):=Lib.hid (heap_alloc_new w5 _);have HOWN9:Hid ((w5.alloc (.cells #[.int .u8 20,.int .u64 0,.string s,.slice none 0 0] 44)).ownsRow W3.heap.size 44 4 (.slice (some ⟨w5.heap.size,0,none⟩) 1 1) 1 (fl4 [(20,0,s)])):=Lib.hid (own_one s (Nat.le_trans HB4.out.size hb5.size));have HNE:Hid (g8≠w5.heap.size):=Lib.hid (by have h1:=HROW.out.lt;have h2:=hb5.size;omega);clear hB5 hb5 HS4 HROW HB4;generalize w5.alloc (.cells #[.int .u8 20,.int .u64 0,.string s,.slice none 0 0] 44)=W5 at HS5 HROW5 HB5 HROW9 HOWN9 ⊢;generalize w5.heap.size=g9 at HROW9 HOWN9 HNE ⊢;go_cut [9] from 18 (fun s9 wx=>∃ A9 l9 c9,s9=.slice A9 l9 c9∧Kd wx (heL q p e n) (some ⟨g8,0,none⟩) 5 5∧Kd wx (prL q s) A9 l9 c9∧HS w wx p e n s q g1 g2 g3 A l b)
   case first=>
    cases q with
    | false=>
     go_wp2_with fail;go_meet;exact⟨some ⟨g9,0,none⟩,1,1,rfl,HROW5.out.kd (by simp;have:=HPK.out;omega),HROW9.out.kd (by simp),HS5.out⟩
    | true=>
     obtain⟨y0,y1,y2,y3,yf⟩:=HS5.out.yes.all;have hzf:∀ j,W5.frozen? ⟨g8,j,none⟩=false:=fun j=>HROW5.out.frozen j;have q0:W5.cell? ⟨g8,0,none⟩=some (.int .u8 1):=HROW5.out.cell 0;have q1:W5.cell? ⟨g8,1,none⟩=some (.int .u64 0):=HROW5.out.cell 1;have q2:W5.cell? ⟨g8,2,none⟩=some (.string ⟨#[]⟩):=HROW5.out.cell 2;have q3:W5.cell? ⟨g8,3,none⟩=some (.slice none 0 0):=HROW5.out.cell 3;go_upto_region 10 with fail
     obtain⟨Wa,hWa⟩:∃ Wa,((((W5.setCell ⟨g8,0,none⟩ (.int .u8 2)).setCell ⟨g8,1,none⟩ (.int .u64 1)).setCell ⟨g8,2,none⟩ (.string ⟨#[]⟩)).setCell ⟨g8,3,none⟩ (.slice none 0 0))=Wa:=⟨_,rfl⟩;obtain⟨hrA,hoA,hbA⟩:=wr4 0 [(2,1,⟨#[]⟩),(3,p,⟨#[]⟩),(5,e,⟨#[]⟩),(1,0,⟨#[]⟩),(5,n,⟨#[]⟩)] HROW5.out HOWN9.out (by intro h;injection h with h;exact HNE.out h.symm) HB5.out HG8.out _ _ _ _ rfl hWa;rw[hWa];clear hWa y0 y1 y2 y3 yf q0 q1 q2 q3 hzf;have HSA:=Lib.hid (HS3.out.call hbA);obtain⟨y0,y1,y2,y3,yf⟩:=HSA.out.yes.all;have hzf:∀ j,Wa.frozen? ⟨g8,j,none⟩=false:=fun j=>hrA.frozen j;have q0:Wa.cell? ⟨g8,12,none⟩=some (.int .u8 1):=hrA.cell 12;have q1:Wa.cell? ⟨g8,13,none⟩=some (.int .u64 0):=hrA.cell 13;have q2:Wa.cell? ⟨g8,14,none⟩=some (.string ⟨#[]⟩):=hrA.cell 14;have q3:Wa.cell? ⟨g8,15,none⟩=some (.slice none 0 0):=hrA.cell 15;have HRA:=Lib.hid hrA;have HOA:=Lib.hid hoA;have HBA:=Lib.hid hbA;clear hrA hoA hbA HS5 HROW5 HB5 HROW9 HOWN9;go_upto_region 11 with fail
     obtain⟨Wb,hWb⟩:∃ Wb,((((Wa.setCell ⟨g8,12,none⟩ (.int .u8 2)).setCell ⟨g8,13,none⟩ (.int .u64 1)).setCell ⟨g8,14,none⟩ (.string ⟨#[]⟩)).setCell ⟨g8,15,none⟩ (.slice none 0 0))=Wb:=⟨_,rfl⟩;obtain⟨hrB,hoB,hbB⟩:=wr4 12 [(2,1,⟨#[]⟩),(3,p,⟨#[]⟩),(5,e,⟨#[]⟩),(2,1,⟨#[]⟩),(5,n,⟨#[]⟩)] HRA.out HOA.out (by intro h;injection h with h;exact HNE.out h.symm) HBA.out HG8.out _ _ _ _ rfl hWb;rw[hWb];clear hWb y0 y1 y2 y3 yf q0 q1 q2 q3 hzf HRA HOA HBA HSA;have HRB:=Lib.hid hrB;have HOB:=Lib.hid hoB;have HBB:=Lib.hid hbB;clear hrB hoB hbB;go_upto_region 12 with (first
      | (go_at_call 19;(with_reducible refine(sym_new ⟨#[121]⟩ _).mono ?_);rintro _ w7 ⟨rfl,hb7⟩)
      | fail)
     have hb8:=hb7.alloc hb7.size (.cells #[.int .u8 21,.int .u64 0,.string ⟨#[121]⟩,.slice none 0 0] 44);have HSC:=Lib.hid (HS3.out.call (HBB.out.trans (hb8.mono HBB.out.size)));have HYC:Hid (Box (w7.alloc (.cells #[.int .u8 21,.int .u64 0,.string ⟨#[121]⟩,.slice none 0 0] 44)) w7.heap.size (.int .u8 21) (.int .u64 0) (.string ⟨#[121]⟩) (.slice none 0 0)):=Lib.hid (Box.new w7 _ _ _ _);have HRC:=Lib.hid (HRB.out.call hb8);have HOC:=Lib.hid (own_call HOB.out hb8);have HG10:Hid (g9 < w7.heap.size∧W3.heap.size≤g9∧g3 < W3.heap.size):=Lib.hid (by have h1:=HOB.out.lt g9 rfl;have h2:=hb7.size;have h3:=HS3.out.str.lt;omega);have HBC:=Lib.hid (HBB.out.trans (hb8.mono HBB.out.size));have HN3:Hid (g3≠g9):=Lib.hid (by have:=HG10.out;omega);have HN10:Hid (w7.heap.size≠g9):=Lib.hid (by have:=HG10.out;omega);clear hb7 hb8 HRB HOB HBB;generalize w7.alloc (.cells #[.int .u8 21,.int .u64 0,.string ⟨#[121]⟩,.slice none 0 0] 44)=Wc at HSC HYC HRC HOC HBC ⊢;generalize w7.heap.size=g10 at HYC HN10 ⊢;have hb0:Below Wc.heap.size Wc Wc.drew:=(Below.refl _ _).drew;have HCF:=Lib.hid (fun wx (h:Below Wc.heap.size Wc wx)=>And.intro (HSC.out.str.call h).all (HYC.out.call h).all);obtain⟨i0,hi,hz0,hz1,hz2⟩:=info_parts infoV;go_region_held3 (fun wx=>((wx.cell? ⟨g3,0,none⟩=some (.int .u8 20)∧wx.cell? ⟨g3,1,none⟩=some (.int .u64 0)∧wx.cell? ⟨g3,2,none⟩=some (.string ⟨#[115]⟩)∧wx.cell? ⟨g3,3,none⟩=some (.slice none 0 0)∧∀ i,wx.frozen? ⟨g3,i,none⟩=false)∧(wx.cell? ⟨g10,0,none⟩=some (.int .u8 21)∧wx.cell? ⟨g10,1,none⟩=some (.int .u64 0)∧wx.cell? ⟨g10,2,none⟩=some (.string ⟨#[121]⟩)∧wx.cell? ⟨g10,3,none⟩=some (.slice none 0 0)∧∀ i,wx.frozen? ⟨g10,i,none⟩=false))) (with_reducible first | assumption | exact HCF.out _ hb0 | exact HCF.out _ hc1 | exact HCF.out _ hc2 | exact HCF.out _ hc3 | exact HCF.out _ hc4 | exact HCF.out _ hc5 | exact HCF.out _ (hc5.alloc hc5.size _) | exact hz13 | fail)
      (first
      | (go_at_call 19;(with_reducible refine(bin_new ⟨#[117]⟩ _).mono ?_);rintro _ w1 ⟨rfl,hb1⟩;have hc1:=below_next hb0 hb1)
      | (go_at_call 20;(with_reducible refine(num61 _).mono ?_);rintro _ w2 ⟨rfl,hb2⟩;have hc2:=below_next hc1 hb2)
      | (go_at_call 20;(with_reducible refine(num141 _).mono ?_);rintro _ w3 ⟨rfl,hb3⟩;have hc3:=below_next hc2 hb3)
      | (go_at_call 20;(with_reducible refine(num142 _).mono ?_);rintro _ w4 ⟨rfl,hb4⟩;have hc4:=below_next hc3 hb4)
      | (go_at_call 20;(with_reducible refine(num53 _).mono ?_);rintro _ w5 ⟨rfl,hb5⟩;have hc5:=below_next hc4 hb5)
      | (refine step_append_lies _ rfl _ _ 42 rfl W3.heap.size 44 i0 _ 4 56 Tryz.underlying42 hi hz0 hz1 hz2 rfl (by omega) _ _ _ rfl (by exact World.ownsRow.alloc (own_call HOC.out hc5) _) ⟨w5.heap.size,0,none⟩ 12 12 (fl4 TW) rfl rfl (by exact news_of _ (fl4 TW) _ _ rfl) (fl4_one TW) (by omega) (by unfold maxLen;omega) (by omega) (by have:=hc5.size;have:=HBC.out.size;simp;omega) _ rfl ?_;intro g13 cap13 w13 hown13 hgrow13 hat13 hlt13;have hz13:=held13 (HSC.out.str.call hc5) (HYC.out.call hc5) hgrow13 HN3.out HN10.out)
      | fail)
     all_goals
      go_wp2_with fail;go_meet;exact⟨some ⟨g13,0,none⟩,13,cap13,rfl,(row4_grown ((HRC.out.call hc5).call ((Below.refl _ _).alloc (Nat.le_refl _) _)) hgrow13 HNE.out).kd (by simp;have:=HPK.out;omega),kd_pr hown13,HS3.out.call ((HBC.out.trans ((hc5.mono HBC.out.size).alloc (Nat.le_trans HBC.out.size hc5.size) _)).trans ((Below.refl _ _).grown hgrow13 (by have:=hc5.size;have:=HBC.out.size;simp;omega) fun k hk=>(HOC.out.lt k hk).1))⟩
   case rest=>
    obtain⟨A9,l9,c9,rfl,hK8,hK9,hS6⟩:=hcut
    rename World=>W6
    have HS6:=Lib.hid hS6;have HK8:=Lib.hid hK8;have HK9:=Lib.hid hK9;clear hK8 hK9 hS6 HS5 HROW5 HROW9 HB5 HS3 HCE hb0 x0 x1 x2 x3 x4;have hvs:∃ vs,vs=[heV q p e n,plV q s]:=⟨_,rfl⟩;obtain⟨vs,hvs⟩:=hvs;have HVS:=Lib.hid hvs;clear hvs;have hpos:=HS6.out.tab.pos;go_upto_region 15 with (first
     | (go_at_call 21;(with_reducible refine(put112 (heL q p e n) _ 5 5 _ (Nat.le_trans (heL_bulk q p e n) (by omega)) HK8.out).mono ?_);rintro _ w7 ⟨A7,l7,c7,rfl,hN7,hb7⟩)
     | (go_at_call 21;(with_reducible refine(put115 (prL q s) A9 l9 c9 _ (Nat.le_trans (prL_bulk q s HS200.out) (by omega)) (HK9.out.call hb7)).mono ?_);rintro _ w8 ⟨A8,l8,c8,rfl,hN8,hb8⟩)
     | fail)
    have hKV:Kd (w8.alloc (.cells #[.int .u8 25,.int .u64 0,.string ⟨#[]⟩,.slice A7 l7 c7,.int .u8 25,.int .u64 0,.string ⟨#[]⟩,.slice A8 l8 c8] 44)) vs (some ⟨w8.heap.size,0,none⟩) 2 2:=by
     rw[HVS.out,heV_eq,plV_eq];exact kd_two w8 _ rfl (hN7.kd.call hb8) hN8.kd
    have hS7:=HS6.out.call ((below_next hb7 hb8).alloc (Nat.le_trans hb7.size hb8.size) (.cells #[.int .u8 25,.int .u64 0,.string ⟨#[]⟩,.slice A7 l7 c7,.int .u8 25,.int .u64 0,.string ⟨#[]⟩,.slice A8 l8 c8] 44));generalize w8.alloc (.cells #[.int .u8 25,.int .u64 0,.string ⟨#[]⟩,.slice A7 l7 c7,.int .u8 25,.int .u64 0,.string ⟨#[]⟩,.slice A8 l8 c8] 44)=W at hKV hS7 ⊢;generalize w8.heap.size=gv at hKV ⊢;have HKV:=Lib.hid hKV;have HS7:=Lib.hid hS7;clear hKV hS7 hN7 hN8 hb7 hb8 HK8 HK9 HS6 hpos;have HOK0:=Lib.hid (he_ok (w:=q) HP.out HE.out HN.out);have HTX:Hid (okB (plV q s)=textB 20 s):=Lib.hid (by
     cases ht:textB 20 s with
     | true=>exact(pl_ok (w:=q) ht (by have:=HS200.out;omega)).1
     | false=>exact pl_not ht)
    go_wp2_with fail;go_loopw [11,13] (fun s11 s13 wr=>∃ (j:Nat) (A4:Option Addr) (n4 c4:Nat),j≤2∧s13=.int .i64 (j:Nat)∧s11=.slice A4 n4 c4∧n4≤409600 * j∧(∀ i v,i < j→vs[i]? = some v→okB v=true)∧PL w W wr vs none 0 0 A4 n4 c4 j) (fun _ i _=>2 - (intOf i).toNat)
    case atStart=>exact⟨0,none,0,0,by omega,rfl,rfl,by omega,fun i v h=>absurd h (by omega),⟨Utf.Own.nil _ _ _ _ _,Below.refl _ _⟩⟩
    case round=>
     obtain⟨j,A4,n4,c4,hj,rfl,rfl,hn4,hall,hP⟩:=hrel;have HPL:=Lib.hid hP;have HALL:=Lib.hid hall;have HN4:=Lib.hid hn4;clear hn4 hall;have HSR:=Lib.hid (HS7.out.call hP.low);by_cases hlt:j < 2
     ·obtain⟨g,o,k,m,t,ks,A',l',c',rfl',hgl,hx,y0,y1,y2,y3,hk,hm,hK⟩:=(HKV.out.call hP.low).at_ hlt;injection rfl' with rfl'
      injection rfl' with hg1 ho1 _
      subst hg1;subst ho1;simp only[Nat.zero_add] at y0 y1 y2 y3;have hbk:bulk (.mk k m t ks)≤4096:=by
       rw[HVS.out] at hx;have h01:j=0∨j=1:=by omega
       rcases h01 with rfl | rfl
       ·injection hx with hx;rw[←hx];exact heV_bulk q p e n
       ·injection hx with hx;rw[←hx];exact plV_bulk q s HS200.out
      have HBK:=Lib.hid hbk;have HKK:=Lib.hid hk;have HMM:=Lib.hid hm;have HK:=Lib.hid hK;have HXX:=Lib.hid hx;have HLT:=Lib.hid hlt;have hlow:=hP.low.size;have hlim:n4≤819200:=by have:=HN4.out;omega
      clear hbk hk hm hK hx hP;cases hok:okB (.mk k m t ks) with
      | true=>
       have HOK:=Lib.hid hok;clear hok;go_wp2_with (first
        | (go_at_call 22;(with_reducible refine(Enc.encv_yes k m t ks A' l' c' _ HOK.out (Nat.le_trans HBK.out (by omega)) HKK.out HMM.out HK.out HSR.out.tab).mono ?_);rintro _ w3 ⟨A3,m3,c3,rfl,hO3,hb4⟩;have hm3:m3≤409600:=le_lay2 hO3.len HOK.out HBK.out)
        | (at_builtin;refine wpList_app8 (base:=W.heap.size) rfl _ _ rfl rfl (HPL.out.own.below hb4) rfl hO3.rd (by omega) (by have:=hb4.size;omega) ?_;intro A5 c5 w5 hO5 hg5)
        | fail)
       go_roundw
       case rel=>
        refine⟨j+1,A5,n4+m3,c5,HLT.out,by go_num,rfl,by have:=HN4.out;omega,fun i v hi hv=>?_,⟨?_,?_⟩⟩
        ·by_cases hij:i=j
         ·rw[hij,HXX.out] at hv;injection hv with hv;rw[←hv];exact HOK.out
         ·exact HALL.out i v (by omega) hv
        ·rw[layL_snoc vs HXX.out];exact hO5
        ·exact(HPL.out.low.trans (hb4.mono hlow)).trans (below_grown (HPL.out.own.below hb4) hg5 (by have:=hb4.size;omega))
       case measure=>(have:=HLT.out;simp[intOf];omega)
      | false=>
       have HOK:=Lib.hid hok;clear hok;have hBB:=HBK.out;simp only[bulk] at hBB;have HBB:=Lib.hid hBB;clear hBB;go_wp2_with (first
        | (go_at_call 22;(with_reducible refine(Enc.encv_no k m t ks A' l' c' _ HOK.out (Nat.le_trans HBK.out (by omega)) HMM.out HK.out HSR.out.tab).mono ?_);rintro _ w3 ⟨rfl,hb4⟩;obtain⟨f0,f1,f2,f3⟩:=(And.intro (box_kept y0 hb4 hgl) (And.intro (box_kept y1 hb4 hgl) (And.intro (box_kept y2 hb4 hgl) (box_kept y3 hb4 hgl))));have hR:=vright_any k m t ks A' l' c' w3 (by have:=HBB.out;omega) (by have:=HBB.out;omega) HMM.out (HK.out.call hb4) (HSR.out.tab.call hb4);rw[HOK.out] at hR;have HRR:=Lib.hid hR;have HS9:=Lib.hid (HSR.out.call hb4);clear hR hb4)
        | (go_at_call 23;(with_reducible refine HRR.out.mono ?_);rintro _ w5 ⟨rfl,hb5⟩;have HS10:=Lib.hid (HS9.out.call hb5);clear hb5)
        | (go_at_call 7;(with_reducible refine(HWK.out _ HS10.out.tab).mono ?_);rintro _ w6 ⟨rfl,hb6⟩)
        | fail)
       go_ret;exact⟨rfl,below_next HS10.out.low hb6⟩
     ·have hjl:j=2:=by omega
      subst hjl;have htx:textB 20 s=true:=by
       rw[←HTX.out];exact HALL.out 1 _ (by omega) (by rw[HVS.out];rfl)
      have HTXT:=Lib.hid htx;have hOw:Utf.Own .u8 256 5 wr W.heap.size A4 n4 c4 (layL [heV q p e n,plV q s]):=by
       have h1:=hP.own;rw[List.take_of_length_le (by rw[HVS.out];simp),HVS.out] at h1;exact h1
      have hn4:n4≤60000:=by
       rw[←hOw.len];exact heads_len HS200.out HOK0.out.1 (by rw[HTX.out];exact HTXT.out)
      have HOW:=Lib.hid hOw;have HLO:=Lib.hid hP.low;have hlow:=hP.low.size;have HBL:Hid (b.length≤200):=Lib.hid (by have:=HLB.out;have:=HL200.out;omega);clear hOw htx hP hlt HTX HOK0 HKV HALL HN4 HPL HVS;by_cases h9:9 < p
      ·have HBAD:=Lib.hid (show 9 < p∨64 < s.size from Or.inl h9);have g9:decide ((9:Int) < (p:Int))=true:=decide_eq_true (by omega);clear h9;go_wp2_with (first
        | (go_at_call 14;(with_reducible refine(heads_no HP.out HE.out HN.out HTXT.out HS200.out HBY.out HBL.out HBAD.out hO11 (by omega) HS11.out.tab).mono ?_);rintro _ w12 ⟨rfl,hb12⟩;have HSZ:=Lib.hid ((HS11.out.call hb12).call ((Below.refl _ _).alloc (Nat.le_refl _) (.cells #[.int .u8 0,.int .u32 0,.int .u32 0,.string ⟨#[]⟩,.slice none 0 0] 25)));obtain⟨x0,x1,x2,x3,x4⟩:=HSZ.out.bx.all;clear hb12)
        | (go_at_call 24;(with_reducible refine(data_any A l c b _ HSR.out.rd (by have:=HL200.out;omega) HSR.out.tab).mono ?_);rintro _ w10 ⟨A10,m10,c10,rfl,hO10,hb10⟩;have hm10:m10≤300:=(by have h1:=da_len b;have h2:=hO10.len;have h3:=HLB.out;have h4:=HL200.out;omega))
        | (at_builtin;refine wpList_app8 (base:=W.heap.size) rfl _ _ rfl rfl (HOW.out.below hb10) rfl hO10.rd (by omega) (by have:=hb10.size;omega) ?_;intro A11 c11 w11 hO11 hg11;have HS11:=Lib.hid (HS7.out.call ((HLO.out.trans (hb10.mono HLO.out.size)).trans (below_grown (HOW.out.below hb10) hg11 (by have:=hb10.size;omega)))))
        | (go_at_call 7;(with_reducible refine(HWK.out _ HSZ.out.tab).mono ?_);rintro _ w15 ⟨rfl,hb15⟩)
        | fail)
       go_ret;exact⟨rfl,below_next HSZ.out.low hb15⟩
      ·by_cases h64:64 < s.size
       ·have HBAD:=Lib.hid (show 9 < p∨64 < s.size from Or.inr h64);have g9:decide ((9:Int) < (p:Int))=false:=decide_eq_false (by omega);have g64:decide ((64:Int) < (s.size:Int))=true:=decide_eq_true (by omega);clear h9 h64;go_wp2_with (first
         | (go_at_call 14;(with_reducible refine(heads_no HP.out HE.out HN.out HTXT.out HS200.out HBY.out HBL.out HBAD.out hO11 (by omega) HS11.out.tab).mono ?_);rintro _ w12 ⟨rfl,hb12⟩;have HSZ:=Lib.hid ((HS11.out.call hb12).call ((Below.refl _ _).alloc (Nat.le_refl _) (.cells #[.int .u8 0,.int .u32 0,.int .u32 0,.string ⟨#[]⟩,.slice none 0 0] 25)));obtain⟨x0,x1,x2,x3,x4⟩:=HSZ.out.bx.all;clear hb12)
         | (go_at_call 24;(with_reducible refine(data_any A l c b _ HSR.out.rd (by have:=HL200.out;omega) HSR.out.tab).mono ?_);rintro _ w10 ⟨A10,m10,c10,rfl,hO10,hb10⟩;have hm10:m10≤300:=(by have h1:=da_len b;have h2:=hO10.len;have h3:=HLB.out;have h4:=HL200.out;omega))
         | (at_builtin;refine wpList_app8 (base:=W.heap.size) rfl _ _ rfl rfl (HOW.out.below hb10) rfl hO10.rd (by omega) (by have:=hb10.size;omega) ?_;intro A11 c11 w11 hO11 hg11;have HS11:=Lib.hid (HS7.out.call ((HLO.out.trans (hb10.mono HLO.out.size)).trans (below_grown (HOW.out.below hb10) hg11 (by have:=hb10.size;omega)))))
         | (go_at_call 7;(with_reducible refine(HWK.out _ HSZ.out.tab).mono ?_);rintro _ w15 ⟨rfl,hb15⟩)
         | fail)
        go_ret;exact⟨rfl,below_next HSZ.out.low hb15⟩
       ·have HBAD:=Lib.hid (show ¬ (9 < p∨64 < s.size) by omega);have g9:decide ((9:Int) < (p:Int))=false:=decide_eq_false (by omega);have g64:decide ((64:Int) < (s.size:Int))=false:=decide_eq_false (by omega);clear h9 h64;go_wp2_with (first
         | (go_at_call 14;(with_reducible refine(heads_yes HP.out HE.out HN.out HTXT.out HS200.out HBY.out HBL.out HBAD.out hO11 (by omega) HS11.out.tab).mono ?_);rintro _ w12 ⟨A12,l12,c12,rfl,hO12,hb12⟩;have HSY:=Lib.hid ((HS11.out.call hb12).call ((Below.refl _ _).alloc (Nat.le_refl _) (.cells #[.int .u8 (p:Int),.int .u32 (e:Int),.int .u32 (n:Int),.string s,.slice A12 l12 c12] 25)));obtain⟨x0,x1,x2,x3,x4⟩:=HSY.out.bx.all;obtain⟨t0,t1,t2,t3,t4,tf⟩:=(BxM.new w12 (.int .u8 (p:Int)) (.int .u32 (e:Int)) (.int .u32 (n:Int)) (.string s) (.slice A12 l12 c12)).all;have HOY:=Lib.hid (hO12.rd.call ((Below.refl _ _).alloc (Nat.le_refl _) (.cells #[.int .u8 (p:Int),.int .u32 (e:Int),.int .u32 (n:Int),.string s,.slice A12 l12 c12] 25)));clear hb12 hO12)
         | (go_at_call 16;(with_reducible refine(same_msg p e n s A12 l12 c12 A l c b _ HOY.out HSY.out.rd).mono ?_);rintro _ w13 ⟨rfl,hb13⟩;have HSZ:=Lib.hid (HSY.out.call hb13);clear hb13)
         | (go_at_call 24;(with_reducible refine(data_any A l c b _ HSR.out.rd (by have:=HL200.out;omega) HSR.out.tab).mono ?_);rintro _ w10 ⟨A10,m10,c10,rfl,hO10,hb10⟩;have hm10:m10≤300:=(by have h1:=da_len b;have h2:=hO10.len;have h3:=HLB.out;have h4:=HL200.out;omega))
         | (at_builtin;refine wpList_app8 (base:=W.heap.size) rfl _ _ rfl rfl (HOW.out.below hb10) rfl hO10.rd (by omega) (by have:=hb10.size;omega) ?_;intro A11 c11 w11 hO11 hg11;have HS11:=Lib.hid (HS7.out.call ((HLO.out.trans (hb10.mono HLO.out.size)).trans (below_grown (HOW.out.below hb10) hg11 (by have:=hb10.size;omega)))))
         | (go_at_call 7;(with_reducible refine(HWK.out _ HSZ.out.tab).mono ?_);rintro _ w15 ⟨rfl,hb15⟩)
         | fail)
        go_ret;exact⟨rfl,below_next HSZ.out.low hb15⟩
end Go.Proofs.YtcilmmdmkpnppaaGreatDoor.messageHeads
end
section
namespace Go.Proofs.YtcilmmdmkpnppaaGreatDoor.messageHeads
open Go.ChangeShapes Go.WideShapes Go.ChangeAt Go.RowKit Utf Val Fl Me
set_option maxRecDepth 100000 in
theorem lifted (os:Os)(started:os.Started)(H:Type)(enc:TypeId×Value→H) :
  ReturnsInHanded {} Tryz.checked os 5 .any (fun w args=>(Rows.messageHeadsSpec.pre enc Tryz.prog Tryz.f5 [] false w args∧laidMetH Tryz.prog laid w)∧sizedMet enc Tryz.prog Tryz.f5 (OpenSpec.ofChange Rows.messageHeadsSpec) false w args)
   (Rows.messageHeadsSpec.post enc Tryz.prog Tryz.f5 false true false false):=by
 refine returnsInHanded_of_change_and (C:=Tryz.checked) (X:=fun w _=>laidMetH Tryz.prog laid w) (fun _ _ _ hh h=>h.of_heap hh) own started (by kernel_rfl) Tryz.func5
  (ChangeSpec.witness_shaped (enc:=enc) (C:=Tryz.checked) (os:=os) (X:=fun w _=>laidMetH Tryz.prog laid w) false (World.doorLaid Tryz.prog 400 os) #[.agg #[.int .u8 0,.int .u32 0,.int .u32 0,.string ⟨#[]⟩,.bool false],.slice none 0 0] 8 rfl (World.shaped_of_RefB (by kernel_rfl) (by kernel_rfl)) (by kernel_rfl) (by kernel_rfl) (by kernel_rfl) (door_met os _)) ?_
 intro W base args ds gs before hval0 hW _ _ hL _;have hval:∀ (j:Nat) t v,Tryz.f5.params[j]? = some t→args[j]? = some v→Value.okWide Tryz.prog W .any base t v:=hval0;have hW':=hW;obtain⟨p,q,hA0,hV,rfl,hfz,hnd⟩:=hW;have hA:DataW.TrodAll enc Tryz.prog W 0 (fun _=>true) true Tryz.f5.params.toList args.toList ds p:=hA0;rw[Tryz.params5] at hA hval;obtain⟨v0,vs0,d0,ds0,p0,q0,hargs,rfl,rfl,h0,r0⟩:=trodAll_cons hA;obtain⟨v1,vs1,d1,ds1,p1,q1,rfl,rfl,rfl,h1,r1⟩:=trodAll_cons r0;obtain⟨rfl,rfl,rfl⟩:=trodAll_nil r1;obtain rfl:args=#[v0,v1]:=by cases args;simp_all
 obtain⟨rfl,rfl⟩:=trodVars_none hV;have hT:=of_laid hL;clear hA0 hval0;simp only[List.append_nil] at hW';have hlt0:∀ x∈p0,x.block < W.heap.size:=fun x hx=>hW'.lt x (by simp[hx]);obtain⟨p0,e0,n0,s0,q0,rfl,hp0,he0,hn0⟩:=open_head (hval 0 40 v0 rfl rfl) h0 hlt0;have hlt1:∀ x∈p1,x.block < W.heap.size:=fun x hx=>hW'.lt x (by simp[hx]);obtain⟨A1,l1,c1,b1,rfl,hc1,hm1,hr1⟩:=open_nums (K:=.u8) (M:=256) Tryz.underlying23 Tryz.underlying5 cells5 (fun _=>u8_of_wf) (hval 1 23 _ rfl rfl) h1 hlt1;refine(walk p0 e0 n0 s0 q0 A1 l1 c1 b1 W hT hp0 he0 hn0 hr1 hc1).mono fun e W' ⟨he,hb⟩=>?_;subst he;exact⟨_,rfl,_,_,_,[],_,[],hW',trodAll_mk1 (shut_bool Tryz.underlying4 _),trodAll_cons_mk (Below.trod laidOut (by kernel_rfl) (of_decide_eq_true (by kernel_rfl)) h0 hb hlt0) (trodAll_cons_mk (Below.trod laidOut (by kernel_rfl) (of_decide_eq_true (by kernel_rfl)) h1 hb hlt1) trodAll_mk0),rfl,hb.frame _,fun h=>by cases h⟩
theorem over:Rows.messageHeadsRow.holds Tryz.pinned (OpenSpec.ofChange Rows.messageHeadsSpec):=
 OpenClaim.holds_of_wide 5 Tryz.f5 rfl rfl rfl rfl rfl rfl rfl ⟨rfl,rfl,rfl,rfl,rfl⟩ rfl rfl rfl rfl rfl (by kernel_rfl) Tryz.func5 (by kernel_rfl)
  (of_decide_eq_true (by kernel_rfl)) (by unfold Func.isWrapper;first | (rw[if_pos (by decide +kernel)];kernel_rfl) | (rw[if_neg (by decide +kernel)];exact⟨rfl,rfl⟩))
  (fun os started H enc _=>lifted os started H enc)
theorem proved:Rows.MessageHeadsCardSaid:=
 Claim7.holds_tied_plain_at .later [] [.data] true (true, "474700eed4b796bf6d5897fb54557755235e15c97c33196842b3215d164d9905") true
  over (fun _ h=>by cases h) (by kernel_rfl) (fun _ h=>by cases h) messageHeads_row_tie rfl ⟨rfl,rfl⟩ (by kernel_rfl) rfl
  (fun f fn hf hfn=>by
   obtain rfl : f = 5 := Option.some.inj ((show Tryz.prog.funcNamed "bellwether/bellwetherlaw10.MessageHeads" = some 5 by kernel_rfl).symm.trans hf) |>.symm
   obtain rfl:fn=Tryz.f5:=(Option.some.inj (Tryz.func5.symm.trans hfn)).symm;exact⟨by kernel_rfl,fun j t ht=>by
    rw[Tryz.params5] at ht;have hm:t∈[40,23]:=by simpa using Array.mem_of_getElem? ht
    have hall:([40,23].all fun u=>!Tryz.prog.wantsStandIn u)=true:=by kernel_rfl
    exact(show Tryz.prog.wantsStandIn t=false by simpa using List.all_eq_true.1 hall t hm)⟩)
  (by kernel_rfl)
end Go.Proofs.YtcilmmdmkpnppaaGreatDoor.messageHeads
end
