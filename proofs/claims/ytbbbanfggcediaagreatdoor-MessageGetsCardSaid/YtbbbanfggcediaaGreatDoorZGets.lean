/-
  The statement MessageGets: Get tells the message of any bytes, or that there is none, in new memory. Condition, as the card has it: the table utf.shapes lies as the program's text lays it.
-/
import Derived.Test.YtbbbanfggcediaaGreatDoorY32
import Derived.Deep.Matrix
set_option maxRecDepth 100000
set_option maxHeartbeats 8000000
namespace Go.Proofs.YtbbbanfggcediaaGreatDoor
open _root_.Go.Proofs.Tryz
namespace messageGets
open Go.RowKit Utf Val Fl Me V
def GG (p ttl n:Nat)(id:ByteArray)(er:Int)(bs:Lz)(w:World)(e:Ending)(w':World):Prop:=∃ A l c,e=.returned (.tuple #[.agg #[.int .u8 (p:Int),.int .u32 (ttl:Int),.int .u32 (n:Int),.string id,.slice A l c],.int .i64 er])∧Utf.Own .u8 256 5 w' w.heap.size A l c bs∧Below w.heap.size w w'
theorem zvH (o:Option M):∃ (p ttl n:Nat) (id:ByteArray) (er:Int) (bs:Lz),∀ w e w',zfL o w e w'→GG p ttl n id er bs w e w':=by
 cases o with
 | none=>exact⟨0,0,0,⟨#[]⟩,6,[],fun w e w' ⟨h1,h2⟩=>⟨none,0,0,h1,Utf.Own.nil _ _ _ _ _,h2⟩⟩
 | some m=>exact⟨m.p,m.ttl,m.n,m.id,0,m.body,fun w e w' ⟨A,l,c,h1,h2,h3⟩=>⟨A,l,c,h1,h2,h3⟩⟩
theorem walk (A:Oz)(n c:Nat)(b:Lz)(w:World)(Ho:Tab w)(hr:Rd .u8 256 w w.heap.size A n b)(kz:n≤c) :
  Calls prog 3 #[.slice A n c] w (zaj true w):=by
 have Yt:=zaa hr;have Xo:=zaa Ho;have ug:=zaa kz;have Yl:=zaa (fun wx (h:Tab wx)=>zkb wx h);clear hr Ho kz;by_cases hbig:8192 < n
 ·have d1:decide ((8192:Int) < (n:Int))=true:=by simp;omega
  go_enter func3,ntmps3;go_wp2_with (first
   | (go_at_call 4;(with_reducible refine(Yl.out _ Xo.out).mono ?_);rintro e w2 ⟨rfl,He⟩)
   | fail)
  go_ret;exact⟨rfl,He⟩
 have d1:decide ((8192:Int) < (n:Int))=false:=by simp;omega
 obtain⟨p,ttl,q,id,er,bs,hG⟩:=zvH (getM b);have HP1:=zaa (fun(A:Oz) (c:Nat) (w:World) (hr:Rd .u8 256 w w.heap.size A n b) (hc:n≤c) (hT:Tab w)=>(zh2 A n c b w hr hc (by omega) hT).mono (fun e w' h=>hG w e w' h));have br:=zaa (fun(A:Oz) (c:Nat) (w:World) (hr:Rd .u8 256 w w.heap.size A n b) (hc:n≤c)=>(zo5 A n c b w hr hc (by omega)).mono (fun e w' h=>hG w e w' h));have HS:=zaa (show n≤1048576 by omega);clear hG;go_enter func3,ntmps3;go_wp2_with fail
 (with_reducible refine(Rm.room A n c b _ Yt.out HS.out).mono ?_)
 rintro e w3 ⟨g,rfl,cX,Hj⟩;have Gv:=zaa Hj;have HY3:=zaa cX;have Kz:g < w3.heap.size:=cX.blk.2;clear Hj cX;go_wp2_with fail
 (with_reducible refine(HP1.out (some ⟨g,0,none⟩) (n+11) _ HY3.out.mine.rd (by omega) (Xo.out.call Gv.out)).mono ?_)
 rintro e w5 ⟨A5,l5,c5,rfl,GR,gp⟩;have j4:=GR.blk;have Jd:=gp.size;have xJ:=zaa (BxM.new w5 (.int .u8 (p:Int)) (.int .u32 (ttl:Int)) (.int .u32 (q:Int)) (.string id) (.slice A5 l5 c5));have kU:Below w5.heap.size w5 (w5.alloc (.cells #[.int .u8 (p:Int),.int .u32 (ttl:Int),.int .u32 (q:Int),.string id,.slice A5 l5 c5] 27)):=(za _ _);have cY:=zaa (zad (zad Gv.out gp) kU);have HY6:=zaa ((HY3.out.below gp).below kU);have HO6:=zaa (GR.below kU);have hs6:=kU.size;clear GR gp kU;generalize hW6:w5.alloc (.cells #[.int .u8 (p:Int),.int .u32 (ttl:Int),.int .u32 (q:Int),.string id,.slice A5 l5 c5] 27)=W6 at xJ cY HY6 HO6 hs6;go_wp2_with fail
 try rw[hW6]
 (with_reducible refine(br.out A c _ (Yt.out.call cY.out) ug.out).mono ?_)
 rintro e w7 ⟨A7,l7,c7,rfl,Jq,jM⟩;have xp:=zaa (BxM.new w7 (.int .u8 (p:Int)) (.int .u32 (ttl:Int)) (.int .u32 (q:Int)) (.string id) (.slice A7 l7 c7));have kU:Below w7.heap.size w7 (w7.alloc (.cells #[.int .u8 (p:Int),.int .u32 (ttl:Int),.int .u32 (q:Int),.string id,.slice A7 l7 c7] 27)):=(za _ _);have HB8:=zaa (zad (zad cY.out jM) kU);have HY8:=zaa ((HY6.out.below jM).below kU);have cZ:=zaa ((HO6.out.below jM).below kU);have HX8:=zaa (Jq.below kU);have yH:=zaa ((xJ.out.call jM).call kU);clear Jq jM kU;generalize Y6:w7.alloc (.cells #[.int .u8 (p:Int),.int .u32 (ttl:Int),.int .u32 (q:Int),.string id,.slice A7 l7 c7] 27)=W8 at xp HB8 HY8 cZ HX8 yH;obtain⟨n0,n1,n2,n3,n4,nf⟩:=xp.out.all;obtain⟨m0,m1,m2,m3,m4,mf⟩:=yH.out.all;have hee:(er==er)=true:=by simp
 go_wp2_with fail
 try rw[Y6]
 go_wp2_with fail
 (with_reducible refine(zqW p ttl q id A5 l5 c5 A7 l7 c7 bs _ cZ.out.rd HX8.out.rd).mono ?_)
 rintro e w9 ⟨rfl,kr⟩;have j5:=zaa (zad HB8.out kr);have HY9:=zaa (HY8.out.below kr);have HO9:=zaa (cZ.out.below kr);have dg:=zaa (yH.out.call kr);clear kr n0 n1 n2 n3 n4 nf m0 m1 m2 m3 m4 mf;obtain⟨m0,m1,m2,m3,m4,mf⟩:=dg.out.all;have HKP:=zaa (Rm.kept _ g n A c b w9 HY9.out (Yt.out.call j5.out) HS.out);have Hr:(w9.alloc (.cells #[.slice A5 l5 c5,.slice (some ⟨g,0,none⟩) n (n+11)] 22)).heap[w9.heap.size]? = some (.cells #[.slice A5 l5 c5,.slice (some ⟨g,0,none⟩) n (n+11)] 22 (0,0)):=heap_alloc_new w9 _;have kU:Below w9.heap.size w9 (w9.alloc (.cells #[.slice A5 l5 c5,.slice (some ⟨g,0,none⟩) n (n+11)] 22)):=(za _ _);have HA:=zaa (Fr.apart2 (base:=w.heap.size) (x:=w3.heap.size) Hr (Utf.Own.mono (HO9.out.below kU) Gv.out.size) (HY9.out.below kU).mine (fun b o e=>(j4 b (by rw[e];rfl)).1) (fun b o e=>by injection e with e;injection e with e1 _;omega));have dh:=zaa (zad j5.out kU);clear Hr kU j4 Jd hs6 Kz;go_wp2_with (first
  | (go_at_call 9;(with_reducible refine HKP.out.mono ?_);rintro e w10 ⟨rfl,rfl⟩)
  | (go_at_call 10;(with_reducible refine HA.out.mono ?_);rintro e w11 ⟨rfl,Uw⟩;have kI:=zaa (zad dh.out Uw);clear Uw)
  | (go_at_call 4;(with_reducible refine(Yl.out _ (Xo.out.call kI.out)).mono ?_);rintro e w12 ⟨rfl,di⟩)
  | fail)
 go_ret;exact⟨rfl,zad kI.out di⟩
end messageGets
namespace messageGets
open Go.ChangeShapes Go.WideShapes Go.ChangeAt Go.RowKit Utf Val Fl Me
theorem lifted (os:Os)(started:os.Started)(H:Type)(enc:TypeId×Value→H) :
  ReturnsInHanded {} Tryz.checked os 3 .any (fun w args=>(Rows.messageGetsSpec.pre enc prog Tryz.f3 [] false w args∧laidMetH prog laid w)∧sizedMet enc prog Tryz.f3 (OpenSpec.ofChange Rows.messageGetsSpec) false w args)
   (Rows.messageGetsSpec.post enc prog Tryz.f3 false true false false):=by
 refine returnsInHanded_of_change_and (C:=Tryz.checked) (X:=fun w _=>laidMetH prog laid w) (fun _ _ _ hh h=>h.of_heap hh) own started (by kernel_rfl) func3
  (ChangeSpec.witness_shaped (enc:=enc) (C:=Tryz.checked) (os:=os) (X:=fun w _=>laidMetH prog laid w) false (World.doorLaid prog 400 os) #[.slice none 0 0] 8 rfl (World.shaped_of_RefB (by kernel_rfl) (by kernel_rfl)) (by kernel_rfl) (by kernel_rfl) (by kernel_rfl) (zpL os _)) ?_
 intro W base args ds gs before xT hW _ _ hL _;have Jt:∀ (j:Nat) t v,Tryz.f3.params[j]? = some t→args[j]? = some v→Value.okWide prog W .any base t v:=xT;have yT:=hW;obtain⟨p,q,hA0,hV,rfl,hfz,ql⟩:=hW;have hA:DataW.TrodAll enc prog W 0 (fun _=>true) true Tryz.f3.params.toList args.toList ds p:=hA0;rw[params3] at hA Jt;obtain⟨v0,vs0,d0,ds0,p0,q0,jB,rfl,rfl,h0,r0⟩:=trodAll_cons hA;obtain⟨rfl,rfl,rfl⟩:=trodAll_nil r0;obtain rfl:args=#[v0]:=by cases args;simp_all
 obtain⟨rfl,rfl⟩:=trodVars_none hV;have hT:=zr6 hL;clear hA0 xT;simp only[List.append_nil] at yT;have Ux:∀ x∈p0,x.block < W.heap.size:=fun x hx=>yT.lt x (by simp[hx]);obtain⟨A0,l0,c0,b0,rfl,j3,qO,Qf⟩:=zmT (K:=.u8) (M:=256) underlying22 underlying5 cells5 (fun _=>zpM) (Jt 0 22 _ rfl rfl) h0 Ux;refine(walk A0 l0 c0 b0 W hT Qf j3).mono fun e W' ⟨he,hb⟩=>?_;subst he;exact⟨_,rfl,_,_,_,[],_,[],yT,trodAll_mk1 (shut_bool underlying4 _),trodAll_cons_mk (Below.trod laidOut (by kernel_rfl) (of_decide_eq_true (by kernel_rfl)) h0 hb Ux) trodAll_mk0,rfl,hb.frame _,fun h=>by cases h⟩
theorem over:Rows.messageGetsRow.holds Tryz.pinned (OpenSpec.ofChange Rows.messageGetsSpec):=
 OpenClaim.holds_of_wide 3 Tryz.f3 rfl rfl rfl rfl rfl rfl rfl ⟨rfl,rfl,rfl,rfl,rfl⟩ rfl rfl rfl rfl rfl (by kernel_rfl) func3 (by kernel_rfl)
  (of_decide_eq_true (by kernel_rfl)) (by unfold Func.isWrapper;first | (rw[if_pos (by decide +kernel)];kernel_rfl) | (rw[if_neg (by decide +kernel)];exact⟨rfl,rfl⟩))
  (fun os started H enc _=>lifted os started H enc)
theorem proved:Rows.MessageGetsCardSaid:=
 Claim7.holds_tied_plain_at .later [] [.data] true (true, "d7a996d85bd7c91cf32758171788c2b18a943784851337b477f2d05a82bc4871") true
  over (fun _ h=>by cases h) (by kernel_rfl) (fun _ h=>by cases h) messageGets_row_tie rfl ⟨rfl,rfl⟩ (by kernel_rfl) rfl
  (fun f fn hf qo=>by
   obtain rfl : f = 3 := Option.some.inj ((show prog.funcNamed "bellwether/bellwetherlaw10.MessageGets" = some 3 by kernel_rfl).symm.trans hf) |>.symm
   obtain rfl:fn=Tryz.f3:=(Option.some.inj (func3.symm.trans qo)).symm;exact⟨by kernel_rfl,fun j t ht=>by
    rw[params3] at ht;have hm:t∈[22]:=by simpa using Array.mem_of_getElem? ht
    have gm:([22].all fun u=>!prog.wantsStandIn u)=true:=by kernel_rfl
    exact(show prog.wantsStandIn t=false by simpa using List.all_eq_true.1 gm t hm)⟩)
  (by kernel_rfl)
end messageGets
end Go.Proofs.YtbbbanfggcediaaGreatDoor
