/-
  Arguments of the laws of layer 10, opened: messages, many bytes, which sections, what a header tells. No condition.
-/
import Derived.Test.YtcilmmdmkpnppaaGreatDoorY03
import Derived.Test.YtcilmmdmkpnppaaGreatDoorY20
import Derived.Deep.Strs
import Derived.Deep.Matrix
namespace Go.Proofs.YtcilmmdmkpnppaaGreatDoor.Me
set_option maxRecDepth 100000
open Go.ChangeShapes Go.WideShapes Go.ChangeAt Go.RowKit Go.Deep Utf Val V
variable {H:Type} {enc:TypeId×Value→H}
theorem open_byt_of {W:World}{fuel:Nat}{cs:List Value}{x:DataW H×List MemPlace}(h:DataW.trod enc Tryz.prog W 0 (fun _=>true) true fuel 23 cs=some x)(hlt:∀ p∈x.2,p.block < W.heap.size) :
  ∃ A n c L,cs=[.slice A n c]∧Rd .u8 256 W W.heap.size A n L∧n≤c∧c≤maxLen:=by
 rcases open_ints Tryz.underlying23 Tryz.underlying5 cells5 h with ⟨rfl,rfl⟩ | ⟨a,len,cap,zs,rfl,_,hl,hm,hz,rfl,hcell,hwz⟩
 ·exact⟨none,0,0,[],rfl,Rd.zero _ _ _ _ _,Nat.le_refl _,by unfold maxLen;omega⟩
 ·simp only[if_true] at hz;refine⟨some a,len,cap,(zs.take len).map fun z=>z.toNat,rfl,⟨by simp;omega,?_,fun hn=>?_⟩,hl,hm⟩
  ·intro x hx;obtain⟨z,hz',rfl⟩:=List.mem_map.1 hx;exact(u8_of_wf (hwz z (List.mem_of_mem_take hz'))).2
  ·obtain⟨b,off,spot⟩:=a;have hspot:spot=none:=by simpa [Addr.add] using World.cell?_spot (hcell 0 (by omega))
   subst hspot;refine⟨b,off,rfl,hlt (.cell b off) (MemPlace.mem_row.2 ⟨0,by omega,by simp⟩),fun k hk=>?_⟩;have hk':k < len:=by simp at hk;omega
   have hkz:k < zs.length:=by omega
   have:=hcell k hkz;rw[add_plain] at this;rw[this,List.getD_eq_getElem?_getD,List.getElem?_eq_getElem hkz,Option.getD_some,List.getElem_map,List.getElem_take];have h0:=(u8_of_wf (hwz _ (List.getElem_mem hkz))).1;rw[Int.toNat_of_nonneg h0]
theorem open_msg_of {W:World}{fuel:Nat}{cs:List Value}{x:DataW H×List MemPlace}(h:DataW.trod enc Tryz.prog W 0 (fun _=>true) true fuel 25 cs=some x)(hlt:∀ p∈x.2,p.block < W.heap.size) :
  ∃ (p ttl n:Nat) (id:ByteArray) (A:Option Addr) (l c:Nat) (b:List Nat),cs=[.int .u8 (p:Int),.int .u32 (ttl:Int),.int .u32 (n:Int),.string id,.slice A l c]∧p < 256∧ttl < 4294967296∧n < 4294967296∧Rd .u8 256 W W.heap.size A l b∧l≤c∧c≤maxLen:=by
 obtain⟨xs,m,rfl,rfl,hl,hlen,hf⟩:=DataW.trod_struct Tryz.underlying25 h
 match xs,hlen with
 | [y0,y1,y2,y3,y4],_=>
  have h0:=hf 0 _ rfl;have h1:=hf 1 _ rfl;have h2:=hf 2 _ rfl;have h3:=hf 3 _ rfl;have h4:=hf 4 _ rfl;rw[show Tryz.prog.cellsOf 25=5 by kernel_rfl] at hl
  match cs,hl with
  | [c0,c1,c2,c3,c4],_=>
   have e0:((List.drop 0 [c0,c1,c2,c3,c4]).take (Tryz.prog.cellsOf 5))=[c0]:=by rw[show Tryz.prog.cellsOf 5=1 by kernel_rfl];rfl
   have g0:DataW.trod enc Tryz.prog W 0 (fun _=>true) true m 5 [c0]=some y0:=by rw[←e0];exact h0
   have e1:((List.drop 1 [c0,c1,c2,c3,c4]).take (Tryz.prog.cellsOf 22))=[c1]:=by rw[show Tryz.prog.cellsOf 22=1 by kernel_rfl];rfl
   have g1:DataW.trod enc Tryz.prog W 0 (fun _=>true) true m 22 [c1]=some y1:=by rw[←e1];exact h1
   have e2:((List.drop 2 [c0,c1,c2,c3,c4]).take (Tryz.prog.cellsOf 22))=[c2]:=by rw[show Tryz.prog.cellsOf 22=1 by kernel_rfl];rfl
   have g2:DataW.trod enc Tryz.prog W 0 (fun _=>true) true m 22 [c2]=some y2:=by rw[←e2];exact h2
   have e3:((List.drop 3 [c0,c1,c2,c3,c4]).take (Tryz.prog.cellsOf 9))=[c3]:=by rw[show Tryz.prog.cellsOf 9=1 by kernel_rfl];rfl
   have g3:DataW.trod enc Tryz.prog W 0 (fun _=>true) true m 9 [c3]=some y3:=by rw[←e3];exact h3
   have e4:((List.drop 4 [c0,c1,c2,c3,c4]).take (Tryz.prog.cellsOf 23))=[c4]:=by rw[show Tryz.prog.cellsOf 23=1 by kernel_rfl];rfl
   have g4:DataW.trod enc Tryz.prog W 0 (fun _=>true) true m 23 [c4]=some y4:=by rw[←e4];exact h4
   obtain⟨z0,hz0,rfl,w0⟩:=DataW.trod_int Tryz.underlying5 g0;have b0:0≤z0∧z0 < 256:=by simp[Lit.wf,IntKind.min,IntKind.max,IntKind.signed,IntKind.bits] at w0;omega
   obtain⟨x0,rfl⟩:=Int.eq_ofNat_of_zero_le b0.1;simp only[List.cons.injEq,and_true] at hz0;subst hz0;obtain⟨z1,hz1,rfl,w1⟩:=DataW.trod_int Tryz.underlying22 g1;have b1:0≤z1∧z1 < 4294967296:=by simp[Lit.wf,IntKind.min,IntKind.max,IntKind.signed,IntKind.bits] at w1;omega
   obtain⟨x1,rfl⟩:=Int.eq_ofNat_of_zero_le b1.1;simp only[List.cons.injEq,and_true] at hz1;subst hz1;obtain⟨z2,hz2,rfl,w2⟩:=DataW.trod_int Tryz.underlying22 g2;have b2:0≤z2∧z2 < 4294967296:=by simp[Lit.wf,IntKind.min,IntKind.max,IntKind.signed,IntKind.bits] at w2;omega
   obtain⟨x2,rfl⟩:=Int.eq_ofNat_of_zero_le b2.1;simp only[List.cons.injEq,and_true] at hz2;subst hz2;obtain⟨t3,hz3,rfl,_⟩:=DataW.trod_string under9 g3;simp only[List.cons.injEq,and_true] at hz3;subst hz3;obtain⟨A4,l4,k4,L4,hz4,hr4,hk4⟩:=open_byt_of g4 (fun p hp=>hlt p (by simp[hp]));simp only[List.cons.injEq,and_true] at hz4;subst hz4;exact⟨x0,x1,x2,t3,A4,l4,k4,L4,rfl,by omega,by omega,by omega,hr4,hk4⟩
theorem open_msg {W:World}{r:Reach}{b0:Nat}{v:Value}{d:DataW H}{p:List MemPlace}(hval:Value.okWide Tryz.prog W r b0 25 v)(h:DataW.Trod enc Tryz.prog W 0 (fun _=>true) true 25 v d p)(hlt:∀ x∈p,x.block < W.heap.size) :
  ∃ (p ttl n:Nat) (id:ByteArray) (A:Option Addr) (l c:Nat) (b:List Nat),v=.agg #[.int .u8 (p:Int),.int .u32 (ttl:Int),.int .u32 (n:Int),.string id,.slice A l c]∧p < 256∧ttl < 4294967296∧n < 4294967296∧Rd .u8 256 W W.heap.size A l b∧l≤c∧c≤maxLen:=by
 obtain⟨cs,rfl,hsz⟩:=okWide_struct Tryz.underlying25 hval;obtain⟨fuel,hf⟩:=h;obtain⟨p,ttl,n,id,A,l,c,b,hcs,hc⟩:=open_msg_of hf hlt;simp only[Value.cells] at hcs;refine⟨p,ttl,n,id,A,l,c,b,?_,hc⟩
 congr 1
 cases cs;simp at hcs;simp[hcs]
end Go.Proofs.YtcilmmdmkpnppaaGreatDoor.Me
