/-
  Arguments of the laws of layer 10, opened: messages, many bytes, which sections, what a header tells. No condition.
-/
import Derived.Test.YtcilmmdmkpnppaaGreatDoorY03
import Derived.Test.YtcilmmdmkpnppaaGreatDoorY20
import Derived.Deep.Strs
import Derived.Deep.Matrix
namespace Go.Proofs.YtcilmmdmkpnppaaGreatDoor.Me
set_option maxRecDepth 100000
open Go.ChangeShapes Go.WideShapes Go.ChangeAt Go.RowKit Go.Deep Utf Val V
variable {H:Type} {enc:TypeId×Value→H}
theorem open_head_of {W:World}{fuel:Nat}{cs:List Value}{x:DataW H×List MemPlace}(h:DataW.trod enc Tryz.prog W 0 (fun _=>true) true fuel 40 cs=some x)(hlt:∀ p∈x.2,p.block < W.heap.size) :
  ∃ (p ttl n:Nat) (id:ByteArray) (q:Bool),cs=[.int .u8 (p:Int),.int .u32 (ttl:Int),.int .u32 (n:Int),.string id,.bool q]∧p < 256∧ttl < 4294967296∧n < 4294967296:=by
 obtain⟨xs,m,rfl,rfl,hl,hlen,hf⟩:=DataW.trod_struct Tryz.underlying40 h
 match xs,hlen with
 | [y0,y1,y2,y3,y4],_=>
  have h0:=hf 0 _ rfl;have h1:=hf 1 _ rfl;have h2:=hf 2 _ rfl;have h3:=hf 3 _ rfl;have h4:=hf 4 _ rfl;rw[show Tryz.prog.cellsOf 40=5 by kernel_rfl] at hl
  match cs,hl with
  | [c0,c1,c2,c3,c4],_=>
   have e0:((List.drop 0 [c0,c1,c2,c3,c4]).take (Tryz.prog.cellsOf 5))=[c0]:=by rw[show Tryz.prog.cellsOf 5=1 by kernel_rfl];rfl
   have g0:DataW.trod enc Tryz.prog W 0 (fun _=>true) true m 5 [c0]=some y0:=by rw[←e0];exact h0
   have e1:((List.drop 1 [c0,c1,c2,c3,c4]).take (Tryz.prog.cellsOf 22))=[c1]:=by rw[show Tryz.prog.cellsOf 22=1 by kernel_rfl];rfl
   have g1:DataW.trod enc Tryz.prog W 0 (fun _=>true) true m 22 [c1]=some y1:=by rw[←e1];exact h1
   have e2:((List.drop 2 [c0,c1,c2,c3,c4]).take (Tryz.prog.cellsOf 22))=[c2]:=by rw[show Tryz.prog.cellsOf 22=1 by kernel_rfl];rfl
   have g2:DataW.trod enc Tryz.prog W 0 (fun _=>true) true m 22 [c2]=some y2:=by rw[←e2];exact h2
   have e3:((List.drop 3 [c0,c1,c2,c3,c4]).take (Tryz.prog.cellsOf 9))=[c3]:=by rw[show Tryz.prog.cellsOf 9=1 by kernel_rfl];rfl
   have g3:DataW.trod enc Tryz.prog W 0 (fun _=>true) true m 9 [c3]=some y3:=by rw[←e3];exact h3
   have e4:((List.drop 4 [c0,c1,c2,c3,c4]).take (Tryz.prog.cellsOf 4))=[c4]:=by rw[show Tryz.prog.cellsOf 4=1 by kernel_rfl];rfl
   have g4:DataW.trod enc Tryz.prog W 0 (fun _=>true) true m 4 [c4]=some y4:=by rw[←e4];exact h4
   obtain⟨z0,hz0,rfl,w0⟩:=DataW.trod_int Tryz.underlying5 g0;have b0:0≤z0∧z0 < 256:=by simp[Lit.wf,IntKind.min,IntKind.max,IntKind.signed,IntKind.bits] at w0;omega
   obtain⟨x0,rfl⟩:=Int.eq_ofNat_of_zero_le b0.1;simp only[List.cons.injEq,and_true] at hz0;subst hz0;obtain⟨z1,hz1,rfl,w1⟩:=DataW.trod_int Tryz.underlying22 g1;have b1:0≤z1∧z1 < 4294967296:=by simp[Lit.wf,IntKind.min,IntKind.max,IntKind.signed,IntKind.bits] at w1;omega
   obtain⟨x1,rfl⟩:=Int.eq_ofNat_of_zero_le b1.1;simp only[List.cons.injEq,and_true] at hz1;subst hz1;obtain⟨z2,hz2,rfl,w2⟩:=DataW.trod_int Tryz.underlying22 g2;have b2:0≤z2∧z2 < 4294967296:=by simp[Lit.wf,IntKind.min,IntKind.max,IntKind.signed,IntKind.bits] at w2;omega
   obtain⟨x2,rfl⟩:=Int.eq_ofNat_of_zero_le b2.1;simp only[List.cons.injEq,and_true] at hz2;subst hz2;obtain⟨t3,hz3,rfl,_⟩:=DataW.trod_string under9 g3;simp only[List.cons.injEq,and_true] at hz3;subst hz3;obtain⟨q4,hz4,rfl⟩:=DataW.trod_bool Tryz.underlying4 g4;simp only[List.cons.injEq,and_true] at hz4;subst hz4;exact⟨x0,x1,x2,t3,q4,rfl,by omega,by omega,by omega⟩
theorem open_head {W:World}{r:Reach}{b0:Nat}{v:Value}{d:DataW H}{p:List MemPlace}(hval:Value.okWide Tryz.prog W r b0 40 v)(h:DataW.Trod enc Tryz.prog W 0 (fun _=>true) true 40 v d p)(hlt:∀ x∈p,x.block < W.heap.size) :
  ∃ (p ttl n:Nat) (id:ByteArray) (q:Bool),v=.agg #[.int .u8 (p:Int),.int .u32 (ttl:Int),.int .u32 (n:Int),.string id,.bool q]∧p < 256∧ttl < 4294967296∧n < 4294967296:=by
 obtain⟨cs,rfl,hsz⟩:=okWide_struct Tryz.underlying40 hval;obtain⟨fuel,hf⟩:=h;obtain⟨p,ttl,n,id,q,hcs,hc⟩:=open_head_of hf hlt;simp only[Value.cells] at hcs;refine⟨p,ttl,n,id,q,?_,hc⟩
 congr 1
 cases cs;simp at hcs;simp[hcs]
end Go.Proofs.YtcilmmdmkpnppaaGreatDoor.Me
