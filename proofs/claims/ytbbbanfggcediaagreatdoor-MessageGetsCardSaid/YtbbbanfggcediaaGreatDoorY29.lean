/- Contracts, each with its premises. -/
import Derived.Test.YtbbbanfggcediaaGreatDoorY28
set_option maxRecDepth 100000
set_option maxHeartbeats 8000000
namespace Go.Proofs.YtbbbanfggcediaaGreatDoor
open _root_.Go.Proofs.Tryz
open Int renaming toNat_natCast→yc8
namespace Dec
open Go.RowKit Utf Val V
def zbc (K N:Nat)(t:ByteArray)(w:World)(e:Ending)(w':World):Prop:=e=.returned (.tuple #[.agg #[.int .u8 (K:Int),.int .u64 (N:Int),.string t,.slice none 0 0],.bool true])∧Below w.heap.size w w'
theorem zme:∀ c < 256,(kof c=19∨kof c=20∨kof c=21)→(sw c=1∧c < 176)∨(sw c=4∧176≤c):=by decide
theorem rd_1 (c:Nat)(hc:c < 256)(hk:kof c=1)(B:Nat)(A:Oz)(n m:Nat)(l:Lz)(w:World)(hr:Rd .u8 256 w B A n l)(hB:B≤w.heap.size) :
  Calls prog 69 #[.int .u8 (c:Int),.slice A n m] w (zbc 1 0 ⟨#[]⟩ w):=by
 have HK:=zaa (fun w=>zat c hc w);rw[hk] at HK;have gD:=zaa (show Below w.heap.size w (w.alloc (.cells #[.int .u8 0,.int .u64 0,.string ⟨#[]⟩,.slice none 0 0] 43)) from (za _ _));have gG:=zaa (Box.new w (.int .u8 0) (.int .u64 0) (.string ⟨#[]⟩) (.slice none 0 0));have HR:=zaa hr;have Hw:=zaa hB;clear hr hB hk;go_enter func69,ntmps69;go_wp2_with fail
 (with_reducible refine(HK.out _).mono ?_)
 rintro e w1 ⟨rfl,Ha⟩;have Hn:=Ha.size;simp only[World.size_alloc] at Hn;have gq:=zaa (zad gD.out Ha);have Hl:=zaa (gq.out.alloc (by omega) (.cells #[.int .u8 1,.int .u64 0,.string ⟨#[]⟩,.slice none 0 0] 43));obtain⟨d0,d1,d2,d3,df⟩:=(gG.out.call Ha).all;have Hi:w.heap.size < w1.heap.size:=by omega
 have Hp:¬ w.heap.size=w1.heap.size:=by omega
 clear Ha;go_wp2_with fail
 (with_reducible refine(zax B A n m l _ (HR.out.below (Hl.out.mono Hw.out))).mono ?_)
 rintro e w2 ⟨⟨pp,rfl⟩,rfl⟩;obtain⟨N,hN⟩:∃ N,tn l=N:=⟨_,rfl⟩;rw[hN];go_wp2_with fail;refine bodyPost_ret (v:=.tuple #[.agg #[.int .u8 1,.int .u64 0,.string ⟨#[]⟩,.slice none 0 0],.bool true]) (by simp[results,results69,go_sem,d0,d1,d2,d3,Hi]) rfl ?_;exact⟨by rfl,(zae gq.out zab _ _ _ _).alloc (by simp;omega) _⟩
theorem zvs (c:Nat)(hc:c < 256)(hk:kof c=2)(qL:c=65)(B:Nat)(A:Oz)(n m:Nat)(l:Lz)(w:World)(hr:Rd .u8 256 w B A n l)(hB:B≤w.heap.size) :
  Calls prog 69 #[.int .u8 (c:Int),.slice A n m] w (zbc 2 1 ⟨#[]⟩ w):=by
 have HK:=zaa (fun w=>zat c hc w);rw[hk] at HK;have gD:=zaa (show Below w.heap.size w (w.alloc (.cells #[.int .u8 0,.int .u64 0,.string ⟨#[]⟩,.slice none 0 0] 43)) from (za _ _));have gG:=zaa (Box.new w (.int .u8 0) (.int .u64 0) (.string ⟨#[]⟩) (.slice none 0 0));have HR:=zaa hr;have Hw:=zaa hB;have CU:((c:Int)==65)=true:=by rw[qL];rfl
 clear qL;clear hr hB hk;go_enter func69,ntmps69;go_wp2_with fail
 (with_reducible refine(HK.out _).mono ?_)
 rintro e w1 ⟨rfl,Ha⟩;have Hn:=Ha.size;simp only[World.size_alloc] at Hn;have gq:=zaa (zad gD.out Ha);have Hl:=zaa (gq.out.alloc (by omega) (.cells #[.int .u8 2,.int .u64 0,.string ⟨#[]⟩,.slice none 0 0] 43));obtain⟨d0,d1,d2,d3,df⟩:=(gG.out.call Ha).all;have Hi:w.heap.size < w1.heap.size:=by omega
 have Hp:¬ w.heap.size=w1.heap.size:=by omega
 clear Ha;go_wp2_with fail
 (with_reducible refine(zax B A n m l _ (HR.out.below (Hl.out.mono Hw.out))).mono ?_)
 rintro e w2 ⟨⟨pp,rfl⟩,rfl⟩;obtain⟨N,hN⟩:∃ N,tn l=N:=⟨_,rfl⟩;rw[hN];go_wp2_with fail;refine bodyPost_ret (v:=.tuple #[.agg #[.int .u8 2,.int .u64 1,.string ⟨#[]⟩,.slice none 0 0],.bool true]) (by simp[results,results69,go_sem,d0,d1,d2,d3,Hi]) rfl ?_;exact⟨by rfl,(zae gq.out zab _ _ _ _).alloc (by simp;omega) _⟩
theorem zvt (c:Nat)(hc:c < 256)(hk:kof c=2)(h65n:c≠65)(B:Nat)(A:Oz)(n m:Nat)(l:Lz)(w:World)(hr:Rd .u8 256 w B A n l)(hB:B≤w.heap.size) :
  Calls prog 69 #[.int .u8 (c:Int),.slice A n m] w (zbc 2 (tn l) ⟨#[]⟩ w):=by
 have HK:=zaa (fun w=>zat c hc w);rw[hk] at HK;have gD:=zaa (show Below w.heap.size w (w.alloc (.cells #[.int .u8 0,.int .u64 0,.string ⟨#[]⟩,.slice none 0 0] 43)) from (za _ _));have gG:=zaa (Box.new w (.int .u8 0) (.int .u64 0) (.string ⟨#[]⟩) (.slice none 0 0));have HR:=zaa hr;have Hw:=zaa hB;have qL:((c:Int)==65)=false:=by rw[zac];omega
 have CU:((c:Int)==(65:Int))=false:=qL;clear hr hB hk;go_enter func69,ntmps69;go_wp2_with fail
 (with_reducible refine(HK.out _).mono ?_)
 rintro e w1 ⟨rfl,Ha⟩;have Hn:=Ha.size;simp only[World.size_alloc] at Hn;have gq:=zaa (zad gD.out Ha);have Hl:=zaa (gq.out.alloc (by omega) (.cells #[.int .u8 2,.int .u64 0,.string ⟨#[]⟩,.slice none 0 0] 43));obtain⟨d0,d1,d2,d3,df⟩:=(gG.out.call Ha).all;have Hi:w.heap.size < w1.heap.size:=by omega
 have Hp:¬ w.heap.size=w1.heap.size:=by omega
 clear Ha;go_wp2_with fail
 (with_reducible refine(zax B A n m l _ (HR.out.below (Hl.out.mono Hw.out))).mono ?_)
 rintro e w2 ⟨⟨pp,rfl⟩,rfl⟩;obtain⟨N,hN⟩:∃ N,tn l=N:=⟨_,rfl⟩;rw[hN];go_wp2_with fail;refine bodyPost_ret (v:=.tuple #[.agg #[.int .u8 2,.int .u64 (N:Int),.string ⟨#[]⟩,.slice none 0 0],.bool true]) (by simp[results,results69,go_sem,d0,d1,d2,d3,Hi]) rfl ?_;exact⟨by rw[hN];rfl,(zae gq.out zab _ _ _ _).alloc (by simp;omega) _⟩
theorem rd_3 (c:Nat)(hc:c < 256)(hk:kof c=3)(B:Nat)(A:Oz)(n m:Nat)(l:Lz)(w:World)(hr:Rd .u8 256 w B A n l)(hB:B≤w.heap.size) :
  Calls prog 69 #[.int .u8 (c:Int),.slice A n m] w (zbc 3 (tn l) ⟨#[]⟩ w):=by
 have HK:=zaa (fun w=>zat c hc w);rw[hk] at HK;have gD:=zaa (show Below w.heap.size w (w.alloc (.cells #[.int .u8 0,.int .u64 0,.string ⟨#[]⟩,.slice none 0 0] 43)) from (za _ _));have gG:=zaa (Box.new w (.int .u8 0) (.int .u64 0) (.string ⟨#[]⟩) (.slice none 0 0));have HR:=zaa hr;have Hw:=zaa hB;clear hr hB hk;go_enter func69,ntmps69;go_wp2_with fail
 (with_reducible refine(HK.out _).mono ?_)
 rintro e w1 ⟨rfl,Ha⟩;have Hn:=Ha.size;simp only[World.size_alloc] at Hn;have gq:=zaa (zad gD.out Ha);have Hl:=zaa (gq.out.alloc (by omega) (.cells #[.int .u8 3,.int .u64 0,.string ⟨#[]⟩,.slice none 0 0] 43));obtain⟨d0,d1,d2,d3,df⟩:=(gG.out.call Ha).all;have Hi:w.heap.size < w1.heap.size:=by omega
 have Hp:¬ w.heap.size=w1.heap.size:=by omega
 clear Ha;go_wp2_with fail
 (with_reducible refine(zax B A n m l _ (HR.out.below (Hl.out.mono Hw.out))).mono ?_)
 rintro e w2 ⟨⟨pp,rfl⟩,rfl⟩;obtain⟨N,hN⟩:∃ N,tn l=N:=⟨_,rfl⟩;rw[hN];go_wp2_with fail;refine bodyPost_ret (v:=.tuple #[.agg #[.int .u8 3,.int .u64 (N:Int),.string ⟨#[]⟩,.slice none 0 0],.bool true]) (by simp[results,results69,go_sem,d0,d1,d2,d3,Hi]) rfl ?_;exact⟨by rw[hN];rfl,(zae gq.out zab _ _ _ _).alloc (by simp;omega) _⟩
theorem rd_4 (c:Nat)(hc:c < 256)(hk:kof c=4)(B:Nat)(A:Oz)(n m:Nat)(l:Lz)(w:World)(hr:Rd .u8 256 w B A n l)(hB:B≤w.heap.size) :
  Calls prog 69 #[.int .u8 (c:Int),.slice A n m] w (zbc 4 (tn l) ⟨#[]⟩ w):=by
 have HK:=zaa (fun w=>zat c hc w);rw[hk] at HK;have gD:=zaa (show Below w.heap.size w (w.alloc (.cells #[.int .u8 0,.int .u64 0,.string ⟨#[]⟩,.slice none 0 0] 43)) from (za _ _));have gG:=zaa (Box.new w (.int .u8 0) (.int .u64 0) (.string ⟨#[]⟩) (.slice none 0 0));have HR:=zaa hr;have Hw:=zaa hB;clear hr hB hk;go_enter func69,ntmps69;go_wp2_with fail
 (with_reducible refine(HK.out _).mono ?_)
 rintro e w1 ⟨rfl,Ha⟩;have Hn:=Ha.size;simp only[World.size_alloc] at Hn;have gq:=zaa (zad gD.out Ha);have Hl:=zaa (gq.out.alloc (by omega) (.cells #[.int .u8 4,.int .u64 0,.string ⟨#[]⟩,.slice none 0 0] 43));obtain⟨d0,d1,d2,d3,df⟩:=(gG.out.call Ha).all;have Hi:w.heap.size < w1.heap.size:=by omega
 have Hp:¬ w.heap.size=w1.heap.size:=by omega
 clear Ha;go_wp2_with fail
 (with_reducible refine(zax B A n m l _ (HR.out.below (Hl.out.mono Hw.out))).mono ?_)
 rintro e w2 ⟨⟨pp,rfl⟩,rfl⟩;obtain⟨N,hN⟩:∃ N,tn l=N:=⟨_,rfl⟩;rw[hN];go_wp2_with fail;refine bodyPost_ret (v:=.tuple #[.agg #[.int .u8 4,.int .u64 (N:Int),.string ⟨#[]⟩,.slice none 0 0],.bool true]) (by simp[results,results69,go_sem,d0,d1,d2,d3,Hi]) rfl ?_;exact⟨by rw[hN];rfl,(zae gq.out zab _ _ _ _).alloc (by simp;omega) _⟩
theorem rd_5 (c:Nat)(hc:c < 256)(hk:kof c=5)(B:Nat)(A:Oz)(n m:Nat)(l:Lz)(w:World)(hr:Rd .u8 256 w B A n l)(hB:B≤w.heap.size) :
  Calls prog 69 #[.int .u8 (c:Int),.slice A n m] w (zbc 5 (tn l) ⟨#[]⟩ w):=by
 have HK:=zaa (fun w=>zat c hc w);rw[hk] at HK;have gD:=zaa (show Below w.heap.size w (w.alloc (.cells #[.int .u8 0,.int .u64 0,.string ⟨#[]⟩,.slice none 0 0] 43)) from (za _ _));have gG:=zaa (Box.new w (.int .u8 0) (.int .u64 0) (.string ⟨#[]⟩) (.slice none 0 0));have HR:=zaa hr;have Hw:=zaa hB;clear hr hB hk;go_enter func69,ntmps69;go_wp2_with fail
 (with_reducible refine(HK.out _).mono ?_)
 rintro e w1 ⟨rfl,Ha⟩;have Hn:=Ha.size;simp only[World.size_alloc] at Hn;have gq:=zaa (zad gD.out Ha);have Hl:=zaa (gq.out.alloc (by omega) (.cells #[.int .u8 5,.int .u64 0,.string ⟨#[]⟩,.slice none 0 0] 43));obtain⟨d0,d1,d2,d3,df⟩:=(gG.out.call Ha).all;have Hi:w.heap.size < w1.heap.size:=by omega
 have Hp:¬ w.heap.size=w1.heap.size:=by omega
 clear Ha;go_wp2_with fail
 (with_reducible refine(zax B A n m l _ (HR.out.below (Hl.out.mono Hw.out))).mono ?_)
 rintro e w2 ⟨⟨pp,rfl⟩,rfl⟩;obtain⟨N,hN⟩:∃ N,tn l=N:=⟨_,rfl⟩;rw[hN];go_wp2_with fail;refine bodyPost_ret (v:=.tuple #[.agg #[.int .u8 5,.int .u64 (N:Int),.string ⟨#[]⟩,.slice none 0 0],.bool true]) (by simp[results,results69,go_sem,d0,d1,d2,d3,Hi]) rfl ?_;exact⟨by rw[hN];rfl,(zae gq.out zab _ _ _ _).alloc (by simp;omega) _⟩
theorem rd_6 (c:Nat)(hc:c < 256)(hk:kof c=6)(B:Nat)(A:Oz)(n m:Nat)(l:Lz)(w:World)(hr:Rd .u8 256 w B A n l)(hB:B≤w.heap.size) :
  Calls prog 69 #[.int .u8 (c:Int),.slice A n m] w (zbc 6 (tn l) ⟨#[]⟩ w):=by
 have HK:=zaa (fun w=>zat c hc w);rw[hk] at HK;have gD:=zaa (show Below w.heap.size w (w.alloc (.cells #[.int .u8 0,.int .u64 0,.string ⟨#[]⟩,.slice none 0 0] 43)) from (za _ _));have gG:=zaa (Box.new w (.int .u8 0) (.int .u64 0) (.string ⟨#[]⟩) (.slice none 0 0));have HR:=zaa hr;have Hw:=zaa hB;clear hr hB hk;go_enter func69,ntmps69;go_wp2_with fail
 (with_reducible refine(HK.out _).mono ?_)
 rintro e w1 ⟨rfl,Ha⟩;have Hn:=Ha.size;simp only[World.size_alloc] at Hn;have gq:=zaa (zad gD.out Ha);have Hl:=zaa (gq.out.alloc (by omega) (.cells #[.int .u8 6,.int .u64 0,.string ⟨#[]⟩,.slice none 0 0] 43));obtain⟨d0,d1,d2,d3,df⟩:=(gG.out.call Ha).all;have Hi:w.heap.size < w1.heap.size:=by omega
 have Hp:¬ w.heap.size=w1.heap.size:=by omega
 clear Ha;go_wp2_with fail
 (with_reducible refine(zax B A n m l _ (HR.out.below (Hl.out.mono Hw.out))).mono ?_)
 rintro e w2 ⟨⟨pp,rfl⟩,rfl⟩;obtain⟨N,hN⟩:∃ N,tn l=N:=⟨_,rfl⟩;rw[hN];go_wp2_with fail;refine bodyPost_ret (v:=.tuple #[.agg #[.int .u8 6,.int .u64 (N:Int),.string ⟨#[]⟩,.slice none 0 0],.bool true]) (by simp[results,results69,go_sem,d0,d1,d2,d3,Hi]) rfl ?_;exact⟨by rw[hN];rfl,(zae gq.out zab _ _ _ _).alloc (by simp;omega) _⟩
theorem zvu (c:Nat)(hc:c < 256)(hk:kof c=11)(B:Nat)(A:Oz)(n m:Nat)(l:Lz)(w:World)(hr:Rd .u8 256 w B A n l)(hB:B≤w.heap.size) :
  Calls prog 69 #[.int .u8 (c:Int),.slice A n m] w (zbc 11 (tn l) ⟨#[]⟩ w):=by
 have HK:=zaa (fun w=>zat c hc w);rw[hk] at HK;have gD:=zaa (show Below w.heap.size w (w.alloc (.cells #[.int .u8 0,.int .u64 0,.string ⟨#[]⟩,.slice none 0 0] 43)) from (za _ _));have gG:=zaa (Box.new w (.int .u8 0) (.int .u64 0) (.string ⟨#[]⟩) (.slice none 0 0));have HR:=zaa hr;have Hw:=zaa hB;clear hr hB hk;go_enter func69,ntmps69;go_wp2_with fail
 (with_reducible refine(HK.out _).mono ?_)
 rintro e w1 ⟨rfl,Ha⟩;have Hn:=Ha.size;simp only[World.size_alloc] at Hn;have gq:=zaa (zad gD.out Ha);have Hl:=zaa (gq.out.alloc (by omega) (.cells #[.int .u8 11,.int .u64 0,.string ⟨#[]⟩,.slice none 0 0] 43));obtain⟨d0,d1,d2,d3,df⟩:=(gG.out.call Ha).all;have Hi:w.heap.size < w1.heap.size:=by omega
 have Hp:¬ w.heap.size=w1.heap.size:=by omega
 clear Ha;go_wp2_with fail
 (with_reducible refine(zax B A n m l _ (HR.out.below (Hl.out.mono Hw.out))).mono ?_)
 rintro e w2 ⟨⟨pp,rfl⟩,rfl⟩;obtain⟨N,hN⟩:∃ N,tn l=N:=⟨_,rfl⟩;rw[hN];go_wp2_with fail;refine bodyPost_ret (v:=.tuple #[.agg #[.int .u8 11,.int .u64 (N:Int),.string ⟨#[]⟩,.slice none 0 0],.bool true]) (by simp[results,results69,go_sem,d0,d1,d2,d3,Hi]) rfl ?_;exact⟨by rw[hN];rfl,(zae gq.out zab _ _ _ _).alloc (by simp;omega) _⟩
theorem zvv (c:Nat)(hc:c < 256)(hk:kof c=12)(B:Nat)(A:Oz)(n m:Nat)(l:Lz)(w:World)(hr:Rd .u8 256 w B A n l)(hB:B≤w.heap.size) :
  Calls prog 69 #[.int .u8 (c:Int),.slice A n m] w (zbc 12 (tn l) ⟨#[]⟩ w):=by
 have HK:=zaa (fun w=>zat c hc w);rw[hk] at HK;have gD:=zaa (show Below w.heap.size w (w.alloc (.cells #[.int .u8 0,.int .u64 0,.string ⟨#[]⟩,.slice none 0 0] 43)) from (za _ _));have gG:=zaa (Box.new w (.int .u8 0) (.int .u64 0) (.string ⟨#[]⟩) (.slice none 0 0));have HR:=zaa hr;have Hw:=zaa hB;clear hr hB hk;go_enter func69,ntmps69;go_wp2_with fail
 (with_reducible refine(HK.out _).mono ?_)
 rintro e w1 ⟨rfl,Ha⟩;have Hn:=Ha.size;simp only[World.size_alloc] at Hn;have gq:=zaa (zad gD.out Ha);have Hl:=zaa (gq.out.alloc (by omega) (.cells #[.int .u8 12,.int .u64 0,.string ⟨#[]⟩,.slice none 0 0] 43));obtain⟨d0,d1,d2,d3,df⟩:=(gG.out.call Ha).all;have Hi:w.heap.size < w1.heap.size:=by omega
 have Hp:¬ w.heap.size=w1.heap.size:=by omega
 clear Ha;go_wp2_with fail
 (with_reducible refine(zax B A n m l _ (HR.out.below (Hl.out.mono Hw.out))).mono ?_)
 rintro e w2 ⟨⟨pp,rfl⟩,rfl⟩;obtain⟨N,hN⟩:∃ N,tn l=N:=⟨_,rfl⟩;rw[hN];go_wp2_with fail;refine bodyPost_ret (v:=.tuple #[.agg #[.int .u8 12,.int .u64 (N:Int),.string ⟨#[]⟩,.slice none 0 0],.bool true]) (by simp[results,results69,go_sem,d0,d1,d2,d3,Hi]) rfl ?_;exact⟨by rw[hN];rfl,(zae gq.out zab _ _ _ _).alloc (by simp;omega) _⟩
theorem zvw (c:Nat)(hc:c < 256)(hk:kof c=13)(B:Nat)(A:Oz)(n m:Nat)(l:Lz)(w:World)(hr:Rd .u8 256 w B A n l)(hB:B≤w.heap.size) :
  Calls prog 69 #[.int .u8 (c:Int),.slice A n m] w (zbc 13 (tn l) ⟨#[]⟩ w):=by
 have HK:=zaa (fun w=>zat c hc w);rw[hk] at HK;have gD:=zaa (show Below w.heap.size w (w.alloc (.cells #[.int .u8 0,.int .u64 0,.string ⟨#[]⟩,.slice none 0 0] 43)) from (za _ _));have gG:=zaa (Box.new w (.int .u8 0) (.int .u64 0) (.string ⟨#[]⟩) (.slice none 0 0));have HR:=zaa hr;have Hw:=zaa hB;clear hr hB hk;go_enter func69,ntmps69;go_wp2_with fail
 (with_reducible refine(HK.out _).mono ?_)
 rintro e w1 ⟨rfl,Ha⟩;have Hn:=Ha.size;simp only[World.size_alloc] at Hn;have gq:=zaa (zad gD.out Ha);have Hl:=zaa (gq.out.alloc (by omega) (.cells #[.int .u8 13,.int .u64 0,.string ⟨#[]⟩,.slice none 0 0] 43));obtain⟨d0,d1,d2,d3,df⟩:=(gG.out.call Ha).all;have Hi:w.heap.size < w1.heap.size:=by omega
 have Hp:¬ w.heap.size=w1.heap.size:=by omega
 clear Ha;go_wp2_with fail
 (with_reducible refine(zax B A n m l _ (HR.out.below (Hl.out.mono Hw.out))).mono ?_)
 rintro e w2 ⟨⟨pp,rfl⟩,rfl⟩;obtain⟨N,hN⟩:∃ N,tn l=N:=⟨_,rfl⟩;rw[hN];go_wp2_with fail;refine bodyPost_ret (v:=.tuple #[.agg #[.int .u8 13,.int .u64 (N:Int),.string ⟨#[]⟩,.slice none 0 0],.bool true]) (by simp[results,results69,go_sem,d0,d1,d2,d3,Hi]) rfl ?_;exact⟨by rw[hN];rfl,(zae gq.out zab _ _ _ _).alloc (by simp;omega) _⟩
theorem rd_7 (c:Nat)(hc:c < 256)(hk:kof c=7)(B:Nat)(A:Oz)(n m:Nat)(l:Lz)(w:World)(hr:Rd .u8 256 w B A n l)(hB:B≤w.heap.size) :
  Calls prog 69 #[.int .u8 (c:Int),.slice A n m] w (zbc 7 (sgw (tn l) l.length) ⟨#[]⟩ w):=by
 have HK:=zaa (fun w=>zat c hc w);rw[hk] at HK;have gD:=zaa (show Below w.heap.size w (w.alloc (.cells #[.int .u8 0,.int .u64 0,.string ⟨#[]⟩,.slice none 0 0] 43)) from (za _ _));have gG:=zaa (Box.new w (.int .u8 0) (.int .u64 0) (.string ⟨#[]⟩) (.slice none 0 0));have HR:=zaa hr;have Hw:=zaa hB;have QJ:=zaa (zif l hr.lim);have QK:=zaa hr.len;clear hr hB hk;go_enter func69,ntmps69;go_wp2_with fail
 (with_reducible refine(HK.out _).mono ?_)
 rintro e w1 ⟨rfl,Ha⟩;have Hn:=Ha.size;simp only[World.size_alloc] at Hn;have gq:=zaa (zad gD.out Ha);have Hl:=zaa (gq.out.alloc (by omega) (.cells #[.int .u8 7,.int .u64 0,.string ⟨#[]⟩,.slice none 0 0] 43));obtain⟨d0,d1,d2,d3,df⟩:=(gG.out.call Ha).all;have Hi:w.heap.size < w1.heap.size:=by omega
 have Hp:¬ w.heap.size=w1.heap.size:=by omega
 clear Ha;go_wp2_with fail
 (with_reducible refine(zax B A n m l _ (HR.out.below (Hl.out.mono Hw.out))).mono ?_)
 rintro e w2 ⟨⟨pp,rfl⟩,rfl⟩;obtain⟨N,hN⟩:∃ N,tn l=N:=⟨_,rfl⟩;rw[hN];obtain⟨S,hS⟩:∃ S,sgw N n=S:=⟨_,rfl⟩;go_wp2_with (go_at_call 116;(with_reducible refine(zcv N (n:Int) _ (hN▸QJ.out)).mono ?_);rintro e w3 ⟨rfl,rfl⟩;rw[yc8,hS]);refine bodyPost_ret (v:=.tuple #[.agg #[.int .u8 7,.int .u64 (S:Int),.string ⟨#[]⟩,.slice none 0 0],.bool true]) (by simp[results,results69,go_sem,d0,d1,d2,d3,Hi]) rfl ?_;exact⟨by rw[hN,QK.out,hS];rfl,(zae gq.out zab _ _ _ _).alloc (by simp;omega) _⟩
theorem rd_8 (c:Nat)(hc:c < 256)(hk:kof c=8)(B:Nat)(A:Oz)(n m:Nat)(l:Lz)(w:World)(hr:Rd .u8 256 w B A n l)(hB:B≤w.heap.size) :
  Calls prog 69 #[.int .u8 (c:Int),.slice A n m] w (zbc 8 (sgw (tn l) l.length) ⟨#[]⟩ w):=by
 have HK:=zaa (fun w=>zat c hc w);rw[hk] at HK;have gD:=zaa (show Below w.heap.size w (w.alloc (.cells #[.int .u8 0,.int .u64 0,.string ⟨#[]⟩,.slice none 0 0] 43)) from (za _ _));have gG:=zaa (Box.new w (.int .u8 0) (.int .u64 0) (.string ⟨#[]⟩) (.slice none 0 0));have HR:=zaa hr;have Hw:=zaa hB;have QJ:=zaa (zif l hr.lim);have QK:=zaa hr.len;clear hr hB hk;go_enter func69,ntmps69;go_wp2_with fail
 (with_reducible refine(HK.out _).mono ?_)
 rintro e w1 ⟨rfl,Ha⟩;have Hn:=Ha.size;simp only[World.size_alloc] at Hn;have gq:=zaa (zad gD.out Ha);have Hl:=zaa (gq.out.alloc (by omega) (.cells #[.int .u8 8,.int .u64 0,.string ⟨#[]⟩,.slice none 0 0] 43));obtain⟨d0,d1,d2,d3,df⟩:=(gG.out.call Ha).all;have Hi:w.heap.size < w1.heap.size:=by omega
 have Hp:¬ w.heap.size=w1.heap.size:=by omega
 clear Ha;go_wp2_with fail
 (with_reducible refine(zax B A n m l _ (HR.out.below (Hl.out.mono Hw.out))).mono ?_)
 rintro e w2 ⟨⟨pp,rfl⟩,rfl⟩;obtain⟨N,hN⟩:∃ N,tn l=N:=⟨_,rfl⟩;rw[hN];obtain⟨S,hS⟩:∃ S,sgw N n=S:=⟨_,rfl⟩;go_wp2_with (go_at_call 116;(with_reducible refine(zcv N (n:Int) _ (hN▸QJ.out)).mono ?_);rintro e w3 ⟨rfl,rfl⟩;rw[yc8,hS]);refine bodyPost_ret (v:=.tuple #[.agg #[.int .u8 8,.int .u64 (S:Int),.string ⟨#[]⟩,.slice none 0 0],.bool true]) (by simp[results,results69,go_sem,d0,d1,d2,d3,Hi]) rfl ?_;exact⟨by rw[hN,QK.out,hS];rfl,(zae gq.out zab _ _ _ _).alloc (by simp;omega) _⟩
theorem rd_9 (c:Nat)(hc:c < 256)(hk:kof c=9)(B:Nat)(A:Oz)(n m:Nat)(l:Lz)(w:World)(hr:Rd .u8 256 w B A n l)(hB:B≤w.heap.size) :
  Calls prog 69 #[.int .u8 (c:Int),.slice A n m] w (zbc 9 (sgw (tn l) l.length) ⟨#[]⟩ w):=by
 have HK:=zaa (fun w=>zat c hc w);rw[hk] at HK;have gD:=zaa (show Below w.heap.size w (w.alloc (.cells #[.int .u8 0,.int .u64 0,.string ⟨#[]⟩,.slice none 0 0] 43)) from (za _ _));have gG:=zaa (Box.new w (.int .u8 0) (.int .u64 0) (.string ⟨#[]⟩) (.slice none 0 0));have HR:=zaa hr;have Hw:=zaa hB;have QJ:=zaa (zif l hr.lim);have QK:=zaa hr.len;clear hr hB hk;go_enter func69,ntmps69;go_wp2_with fail
 (with_reducible refine(HK.out _).mono ?_)
 rintro e w1 ⟨rfl,Ha⟩;have Hn:=Ha.size;simp only[World.size_alloc] at Hn;have gq:=zaa (zad gD.out Ha);have Hl:=zaa (gq.out.alloc (by omega) (.cells #[.int .u8 9,.int .u64 0,.string ⟨#[]⟩,.slice none 0 0] 43));obtain⟨d0,d1,d2,d3,df⟩:=(gG.out.call Ha).all;have Hi:w.heap.size < w1.heap.size:=by omega
 have Hp:¬ w.heap.size=w1.heap.size:=by omega
 clear Ha;go_wp2_with fail
 (with_reducible refine(zax B A n m l _ (HR.out.below (Hl.out.mono Hw.out))).mono ?_)
 rintro e w2 ⟨⟨pp,rfl⟩,rfl⟩;obtain⟨N,hN⟩:∃ N,tn l=N:=⟨_,rfl⟩;rw[hN];obtain⟨S,hS⟩:∃ S,sgw N n=S:=⟨_,rfl⟩;go_wp2_with (go_at_call 116;(with_reducible refine(zcv N (n:Int) _ (hN▸QJ.out)).mono ?_);rintro e w3 ⟨rfl,rfl⟩;rw[yc8,hS]);refine bodyPost_ret (v:=.tuple #[.agg #[.int .u8 9,.int .u64 (S:Int),.string ⟨#[]⟩,.slice none 0 0],.bool true]) (by simp[results,results69,go_sem,d0,d1,d2,d3,Hi]) rfl ?_;exact⟨by rw[hN,QK.out,hS];rfl,(zae gq.out zab _ _ _ _).alloc (by simp;omega) _⟩
theorem zvx (c:Nat)(hc:c < 256)(hk:kof c=10)(B:Nat)(A:Oz)(n m:Nat)(l:Lz)(w:World)(hr:Rd .u8 256 w B A n l)(hB:B≤w.heap.size) :
  Calls prog 69 #[.int .u8 (c:Int),.slice A n m] w (zbc 10 (sgw (tn l) l.length) ⟨#[]⟩ w):=by
 have HK:=zaa (fun w=>zat c hc w);rw[hk] at HK;have gD:=zaa (show Below w.heap.size w (w.alloc (.cells #[.int .u8 0,.int .u64 0,.string ⟨#[]⟩,.slice none 0 0] 43)) from (za _ _));have gG:=zaa (Box.new w (.int .u8 0) (.int .u64 0) (.string ⟨#[]⟩) (.slice none 0 0));have HR:=zaa hr;have Hw:=zaa hB;have QJ:=zaa (zif l hr.lim);have QK:=zaa hr.len;clear hr hB hk;go_enter func69,ntmps69;go_wp2_with fail
 (with_reducible refine(HK.out _).mono ?_)
 rintro e w1 ⟨rfl,Ha⟩;have Hn:=Ha.size;simp only[World.size_alloc] at Hn;have gq:=zaa (zad gD.out Ha);have Hl:=zaa (gq.out.alloc (by omega) (.cells #[.int .u8 10,.int .u64 0,.string ⟨#[]⟩,.slice none 0 0] 43));obtain⟨d0,d1,d2,d3,df⟩:=(gG.out.call Ha).all;have Hi:w.heap.size < w1.heap.size:=by omega
 have Hp:¬ w.heap.size=w1.heap.size:=by omega
 clear Ha;go_wp2_with fail
 (with_reducible refine(zax B A n m l _ (HR.out.below (Hl.out.mono Hw.out))).mono ?_)
 rintro e w2 ⟨⟨pp,rfl⟩,rfl⟩;obtain⟨N,hN⟩:∃ N,tn l=N:=⟨_,rfl⟩;rw[hN];obtain⟨S,hS⟩:∃ S,sgw N n=S:=⟨_,rfl⟩;go_wp2_with (go_at_call 116;(with_reducible refine(zcv N (n:Int) _ (hN▸QJ.out)).mono ?_);rintro e w3 ⟨rfl,rfl⟩;rw[yc8,hS]);refine bodyPost_ret (v:=.tuple #[.agg #[.int .u8 10,.int .u64 (S:Int),.string ⟨#[]⟩,.slice none 0 0],.bool true]) (by simp[results,results69,go_sem,d0,d1,d2,d3,Hi]) rfl ?_;exact⟨by rw[hN,QK.out,hS];rfl,(zae gq.out zab _ _ _ _).alloc (by simp;omega) _⟩
theorem zvy (c:Nat)(hc:c < 256)(hk:kof c=14)(B:Nat)(A:Oz)(n m:Nat)(l:Lz)(w:World)(hr:Rd .u8 256 w B A n l)(hB:B≤w.heap.size) :
  Calls prog 69 #[.int .u8 (c:Int),.slice A n m] w (zbc 14 (sgw (tn l) l.length) ⟨#[]⟩ w):=by
 have HK:=zaa (fun w=>zat c hc w);rw[hk] at HK;have gD:=zaa (show Below w.heap.size w (w.alloc (.cells #[.int .u8 0,.int .u64 0,.string ⟨#[]⟩,.slice none 0 0] 43)) from (za _ _));have gG:=zaa (Box.new w (.int .u8 0) (.int .u64 0) (.string ⟨#[]⟩) (.slice none 0 0));have HR:=zaa hr;have Hw:=zaa hB;have QJ:=zaa (zif l hr.lim);have QK:=zaa hr.len;clear hr hB hk;go_enter func69,ntmps69;go_wp2_with fail
 (with_reducible refine(HK.out _).mono ?_)
 rintro e w1 ⟨rfl,Ha⟩;have Hn:=Ha.size;simp only[World.size_alloc] at Hn;have gq:=zaa (zad gD.out Ha);have Hl:=zaa (gq.out.alloc (by omega) (.cells #[.int .u8 14,.int .u64 0,.string ⟨#[]⟩,.slice none 0 0] 43));obtain⟨d0,d1,d2,d3,df⟩:=(gG.out.call Ha).all;have Hi:w.heap.size < w1.heap.size:=by omega
 have Hp:¬ w.heap.size=w1.heap.size:=by omega
 clear Ha;go_wp2_with fail
 (with_reducible refine(zax B A n m l _ (HR.out.below (Hl.out.mono Hw.out))).mono ?_)
 rintro e w2 ⟨⟨pp,rfl⟩,rfl⟩;obtain⟨N,hN⟩:∃ N,tn l=N:=⟨_,rfl⟩;rw[hN];obtain⟨S,hS⟩:∃ S,sgw N n=S:=⟨_,rfl⟩;go_wp2_with (go_at_call 116;(with_reducible refine(zcv N (n:Int) _ (hN▸QJ.out)).mono ?_);rintro e w3 ⟨rfl,rfl⟩;rw[yc8,hS]);refine bodyPost_ret (v:=.tuple #[.agg #[.int .u8 14,.int .u64 (S:Int),.string ⟨#[]⟩,.slice none 0 0],.bool true]) (by simp[results,results69,go_sem,d0,d1,d2,d3,Hi]) rfl ?_;exact⟨by rw[hN,QK.out,hS];rfl,(zae gq.out zab _ _ _ _).alloc (by simp;omega) _⟩
theorem zvz (c:Nat)(hc:c < 256)(hk:kof c=15)(B:Nat)(A:Oz)(n m:Nat)(l:Lz)(w:World)(hr:Rd .u8 256 w B A n l)(hB:B≤w.heap.size) :
  Calls prog 69 #[.int .u8 (c:Int),.slice A n m] w (zbc 15 0 (sb l) w):=by
 have HK:=zaa (fun w=>zat c hc w);rw[hk] at HK;have gD:=zaa (show Below w.heap.size w (w.alloc (.cells #[.int .u8 0,.int .u64 0,.string ⟨#[]⟩,.slice none 0 0] 43)) from (za _ _));have gG:=zaa (Box.new w (.int .u8 0) (.int .u64 0) (.string ⟨#[]⟩) (.slice none 0 0));have HR:=zaa hr;have Hw:=zaa hB;clear hr hB hk;go_enter func69,ntmps69;go_wp2_with fail
 (with_reducible refine(HK.out _).mono ?_)
 rintro e w1 ⟨rfl,Ha⟩;have Hn:=Ha.size;simp only[World.size_alloc] at Hn;have gq:=zaa (zad gD.out Ha);have Hl:=zaa (gq.out.alloc (by omega) (.cells #[.int .u8 15,.int .u64 0,.string ⟨#[]⟩,.slice none 0 0] 43));obtain⟨d0,d1,d2,d3,df⟩:=(gG.out.call Ha).all;have Hi:w.heap.size < w1.heap.size:=by omega
 have Hp:¬ w.heap.size=w1.heap.size:=by omega
 clear Ha;go_wp2_with fail
 (with_reducible refine(zax B A n m l _ (HR.out.below (Hl.out.mono Hw.out))).mono ?_)
 rintro e w2 ⟨⟨pp,rfl⟩,rfl⟩;obtain⟨N,hN⟩:∃ N,tn l=N:=⟨_,rfl⟩;rw[hN];have gr:=zav m (HR.out.below (Hl.out.mono Hw.out));go_wp2_with fail;refine bodyPost_ret (v:=.tuple #[.agg #[.int .u8 15,.int .u64 0,.string (sb l),.slice none 0 0],.bool true]) (by simp[results,results69,go_sem,d0,d1,d2,d3,Hi]) rfl ?_;exact⟨by rfl,(zae gq.out zab _ _ _ _).alloc (by simp;omega) _⟩
theorem zvA (c:Nat)(hc:c < 256)(hk:kof c=16)(B:Nat)(A:Oz)(n m:Nat)(l:Lz)(w:World)(hr:Rd .u8 256 w B A n l)(hB:B≤w.heap.size) :
  Calls prog 69 #[.int .u8 (c:Int),.slice A n m] w (zbc 16 0 (sb l) w):=by
 have HK:=zaa (fun w=>zat c hc w);rw[hk] at HK;have gD:=zaa (show Below w.heap.size w (w.alloc (.cells #[.int .u8 0,.int .u64 0,.string ⟨#[]⟩,.slice none 0 0] 43)) from (za _ _));have gG:=zaa (Box.new w (.int .u8 0) (.int .u64 0) (.string ⟨#[]⟩) (.slice none 0 0));have HR:=zaa hr;have Hw:=zaa hB;clear hr hB hk;go_enter func69,ntmps69;go_wp2_with fail
 (with_reducible refine(HK.out _).mono ?_)
 rintro e w1 ⟨rfl,Ha⟩;have Hn:=Ha.size;simp only[World.size_alloc] at Hn;have gq:=zaa (zad gD.out Ha);have Hl:=zaa (gq.out.alloc (by omega) (.cells #[.int .u8 16,.int .u64 0,.string ⟨#[]⟩,.slice none 0 0] 43));obtain⟨d0,d1,d2,d3,df⟩:=(gG.out.call Ha).all;have Hi:w.heap.size < w1.heap.size:=by omega
 have Hp:¬ w.heap.size=w1.heap.size:=by omega
 clear Ha;go_wp2_with fail
 (with_reducible refine(zax B A n m l _ (HR.out.below (Hl.out.mono Hw.out))).mono ?_)
 rintro e w2 ⟨⟨pp,rfl⟩,rfl⟩;obtain⟨N,hN⟩:∃ N,tn l=N:=⟨_,rfl⟩;rw[hN];have gr:=zav m (HR.out.below (Hl.out.mono Hw.out));go_wp2_with fail;refine bodyPost_ret (v:=.tuple #[.agg #[.int .u8 16,.int .u64 0,.string (sb l),.slice none 0 0],.bool true]) (by simp[results,results69,go_sem,d0,d1,d2,d3,Hi]) rfl ?_;exact⟨by rfl,(zae gq.out zab _ _ _ _).alloc (by simp;omega) _⟩
theorem zvB (c:Nat)(hc:c < 256)(hk:kof c=17)(B:Nat)(A:Oz)(n m:Nat)(l:Lz)(w:World)(hr:Rd .u8 256 w B A n l)(hB:B≤w.heap.size) :
  Calls prog 69 #[.int .u8 (c:Int),.slice A n m] w (zbc 17 0 (sb l) w):=by
 have HK:=zaa (fun w=>zat c hc w);rw[hk] at HK;have gD:=zaa (show Below w.heap.size w (w.alloc (.cells #[.int .u8 0,.int .u64 0,.string ⟨#[]⟩,.slice none 0 0] 43)) from (za _ _));have gG:=zaa (Box.new w (.int .u8 0) (.int .u64 0) (.string ⟨#[]⟩) (.slice none 0 0));have HR:=zaa hr;have Hw:=zaa hB;clear hr hB hk;go_enter func69,ntmps69;go_wp2_with fail
 (with_reducible refine(HK.out _).mono ?_)
 rintro e w1 ⟨rfl,Ha⟩;have Hn:=Ha.size;simp only[World.size_alloc] at Hn;have gq:=zaa (zad gD.out Ha);have Hl:=zaa (gq.out.alloc (by omega) (.cells #[.int .u8 17,.int .u64 0,.string ⟨#[]⟩,.slice none 0 0] 43));obtain⟨d0,d1,d2,d3,df⟩:=(gG.out.call Ha).all;have Hi:w.heap.size < w1.heap.size:=by omega
 have Hp:¬ w.heap.size=w1.heap.size:=by omega
 clear Ha;go_wp2_with fail
 (with_reducible refine(zax B A n m l _ (HR.out.below (Hl.out.mono Hw.out))).mono ?_)
 rintro e w2 ⟨⟨pp,rfl⟩,rfl⟩;obtain⟨N,hN⟩:∃ N,tn l=N:=⟨_,rfl⟩;rw[hN];have gr:=zav m (HR.out.below (Hl.out.mono Hw.out));go_wp2_with fail;refine bodyPost_ret (v:=.tuple #[.agg #[.int .u8 17,.int .u64 0,.string (sb l),.slice none 0 0],.bool true]) (by simp[results,results69,go_sem,d0,d1,d2,d3,Hi]) rfl ?_;exact⟨by rfl,(zae gq.out zab _ _ _ _).alloc (by simp;omega) _⟩
theorem zvC (c:Nat)(hc:c < 256)(hk:kof c=18)(B:Nat)(A:Oz)(n m:Nat)(l:Lz)(w:World)(hr:Rd .u8 256 w B A n l)(hB:B≤w.heap.size) :
  Calls prog 69 #[.int .u8 (c:Int),.slice A n m] w (zbc 18 0 (sb l) w):=by
 have HK:=zaa (fun w=>zat c hc w);rw[hk] at HK;have gD:=zaa (show Below w.heap.size w (w.alloc (.cells #[.int .u8 0,.int .u64 0,.string ⟨#[]⟩,.slice none 0 0] 43)) from (za _ _));have gG:=zaa (Box.new w (.int .u8 0) (.int .u64 0) (.string ⟨#[]⟩) (.slice none 0 0));have HR:=zaa hr;have Hw:=zaa hB;clear hr hB hk;go_enter func69,ntmps69;go_wp2_with fail
 (with_reducible refine(HK.out _).mono ?_)
 rintro e w1 ⟨rfl,Ha⟩;have Hn:=Ha.size;simp only[World.size_alloc] at Hn;have gq:=zaa (zad gD.out Ha);have Hl:=zaa (gq.out.alloc (by omega) (.cells #[.int .u8 18,.int .u64 0,.string ⟨#[]⟩,.slice none 0 0] 43));obtain⟨d0,d1,d2,d3,df⟩:=(gG.out.call Ha).all;have Hi:w.heap.size < w1.heap.size:=by omega
 have Hp:¬ w.heap.size=w1.heap.size:=by omega
 clear Ha;go_wp2_with fail
 (with_reducible refine(zax B A n m l _ (HR.out.below (Hl.out.mono Hw.out))).mono ?_)
 rintro e w2 ⟨⟨pp,rfl⟩,rfl⟩;obtain⟨N,hN⟩:∃ N,tn l=N:=⟨_,rfl⟩;rw[hN];have gr:=zav m (HR.out.below (Hl.out.mono Hw.out));go_wp2_with fail;refine bodyPost_ret (v:=.tuple #[.agg #[.int .u8 18,.int .u64 0,.string (sb l),.slice none 0 0],.bool true]) (by simp[results,results69,go_sem,d0,d1,d2,d3,Hi]) rfl ?_;exact⟨by rfl,(zae gq.out zab _ _ _ _).alloc (by simp;omega) _⟩
theorem zts (c:Nat)(hc:c < 256)(hk:kof c=19)(GF:c < 176)(B:Nat)(A:Oz)(n m:Nat)(l:Lz)(w:World)(hr:Rd .u8 256 w B A n l)(hB:B≤w.heap.size)(hm:n≤m)(Hu:1≤n) :
  Calls prog 69 #[.int .u8 (c:Int),.slice A n m] w (zbc 19 0 (sb (l.drop 1)) w):=by
 have HK:=zaa (fun w=>zat c hc w);rw[hk] at HK;have gD:=zaa (show Below w.heap.size w (w.alloc (.cells #[.int .u8 0,.int .u64 0,.string ⟨#[]⟩,.slice none 0 0] 43)) from (za _ _));have gG:=zaa (Box.new w (.int .u8 0) (.int .u64 0) (.string ⟨#[]⟩) (.slice none 0 0));have HR:=zaa hr;have Hw:=zaa hB;have Jy:decide ((176:Int)≤(c:Int))=false:=decide_eq_false (by omega);have xH:decide ((c:Int) ≥ 176)=false:=decide_eq_false (by omega);obtain⟨A2,c2,GD,k7,gZ,Gk,gh⟩:=zb A n m 1 Hu hm;have gZ:=fun W=>gZ W 1 rfl;have Gk:=fun W=>Gk W 1 rfl;have J4:=zaa (gh w B l hr);clear GD k7 gh;clear hr hB hk;go_enter func69,ntmps69;go_wp2_with fail
 (with_reducible refine(HK.out _).mono ?_)
 rintro e w1 ⟨rfl,Ha⟩;have Hn:=Ha.size;simp only[World.size_alloc] at Hn;have gq:=zaa (zad gD.out Ha);have Hl:=zaa (gq.out.alloc (by omega) (.cells #[.int .u8 19,.int .u64 0,.string ⟨#[]⟩,.slice none 0 0] 43));obtain⟨d0,d1,d2,d3,df⟩:=(gG.out.call Ha).all;have Hi:w.heap.size < w1.heap.size:=by omega
 have Hp:¬ w.heap.size=w1.heap.size:=by omega
 clear Ha;go_wp2_with fail
 (with_reducible refine(zax B A n m l _ (HR.out.below (Hl.out.mono Hw.out))).mono ?_)
 rintro e w2 ⟨⟨pp,rfl⟩,rfl⟩;obtain⟨N,hN⟩:∃ N,tn l=N:=⟨_,rfl⟩;rw[hN];have gr:=zav c2 (J4.out.below (Hl.out.mono Hw.out));go_wp2_with fail;refine bodyPost_ret (v:=.tuple #[.agg #[.int .u8 19,.int .u64 0,.string (sb (l.drop 1)),.slice none 0 0],.bool true]) (by simp[results,results69,go_sem,d0,d1,d2,d3,Hi]) rfl ?_;exact⟨by rfl,(zae gq.out zab _ _ _ _).alloc (by simp;omega) _⟩
theorem ztt (c:Nat)(hc:c < 256)(hk:kof c=19)(GF:176≤c)(B:Nat)(A:Oz)(n m:Nat)(l:Lz)(w:World)(hr:Rd .u8 256 w B A n l)(hB:B≤w.heap.size)(hm:n≤m)(Hu:4≤n) :
  Calls prog 69 #[.int .u8 (c:Int),.slice A n m] w (zbc 19 0 (sb (l.drop 4)) w):=by
 have HK:=zaa (fun w=>zat c hc w);rw[hk] at HK;have gD:=zaa (show Below w.heap.size w (w.alloc (.cells #[.int .u8 0,.int .u64 0,.string ⟨#[]⟩,.slice none 0 0] 43)) from (za _ _));have gG:=zaa (Box.new w (.int .u8 0) (.int .u64 0) (.string ⟨#[]⟩) (.slice none 0 0));have HR:=zaa hr;have Hw:=zaa hB;have Jy:decide ((176:Int)≤(c:Int))=true:=decide_eq_true (by omega);have xH:decide ((c:Int) ≥ 176)=true:=decide_eq_true (by omega);obtain⟨A2,c2,GD,k7,gZ,Gk,gh⟩:=zb A n m 4 Hu hm;have gZ:=fun W=>gZ W 4 rfl;have Gk:=fun W=>Gk W 4 rfl;have J4:=zaa (gh w B l hr);clear GD k7 gh;clear hr hB hk;go_enter func69,ntmps69;go_wp2_with fail
 (with_reducible refine(HK.out _).mono ?_)
 rintro e w1 ⟨rfl,Ha⟩;have Hn:=Ha.size;simp only[World.size_alloc] at Hn;have gq:=zaa (zad gD.out Ha);have Hl:=zaa (gq.out.alloc (by omega) (.cells #[.int .u8 19,.int .u64 0,.string ⟨#[]⟩,.slice none 0 0] 43));obtain⟨d0,d1,d2,d3,df⟩:=(gG.out.call Ha).all;have Hi:w.heap.size < w1.heap.size:=by omega
 have Hp:¬ w.heap.size=w1.heap.size:=by omega
 clear Ha;go_wp2_with fail
 (with_reducible refine(zax B A n m l _ (HR.out.below (Hl.out.mono Hw.out))).mono ?_)
 rintro e w2 ⟨⟨pp,rfl⟩,rfl⟩;obtain⟨N,hN⟩:∃ N,tn l=N:=⟨_,rfl⟩;rw[hN];have gr:=zav c2 (J4.out.below (Hl.out.mono Hw.out));go_wp2_with fail;refine bodyPost_ret (v:=.tuple #[.agg #[.int .u8 19,.int .u64 0,.string (sb (l.drop 4)),.slice none 0 0],.bool true]) (by simp[results,results69,go_sem,d0,d1,d2,d3,Hi]) rfl ?_;exact⟨by rfl,(zae gq.out zab _ _ _ _).alloc (by simp;omega) _⟩
theorem ztu (c:Nat)(hc:c < 256)(hk:kof c=20)(GF:c < 176)(B:Nat)(A:Oz)(n m:Nat)(l:Lz)(w:World)(hr:Rd .u8 256 w B A n l)(hB:B≤w.heap.size)(hm:n≤m)(Hu:1≤n) :
  Calls prog 69 #[.int .u8 (c:Int),.slice A n m] w (zbc 20 0 (sb (l.drop 1)) w):=by
 have HK:=zaa (fun w=>zat c hc w);rw[hk] at HK;have gD:=zaa (show Below w.heap.size w (w.alloc (.cells #[.int .u8 0,.int .u64 0,.string ⟨#[]⟩,.slice none 0 0] 43)) from (za _ _));have gG:=zaa (Box.new w (.int .u8 0) (.int .u64 0) (.string ⟨#[]⟩) (.slice none 0 0));have HR:=zaa hr;have Hw:=zaa hB;have Jy:decide ((176:Int)≤(c:Int))=false:=decide_eq_false (by omega);have xH:decide ((c:Int) ≥ 176)=false:=decide_eq_false (by omega);obtain⟨A2,c2,GD,k7,gZ,Gk,gh⟩:=zb A n m 1 Hu hm;have gZ:=fun W=>gZ W 1 rfl;have Gk:=fun W=>Gk W 1 rfl;have J4:=zaa (gh w B l hr);clear GD k7 gh;clear hr hB hk;go_enter func69,ntmps69;go_wp2_with fail
 (with_reducible refine(HK.out _).mono ?_)
 rintro e w1 ⟨rfl,Ha⟩;have Hn:=Ha.size;simp only[World.size_alloc] at Hn;have gq:=zaa (zad gD.out Ha);have Hl:=zaa (gq.out.alloc (by omega) (.cells #[.int .u8 20,.int .u64 0,.string ⟨#[]⟩,.slice none 0 0] 43));obtain⟨d0,d1,d2,d3,df⟩:=(gG.out.call Ha).all;have Hi:w.heap.size < w1.heap.size:=by omega
 have Hp:¬ w.heap.size=w1.heap.size:=by omega
 clear Ha;go_wp2_with fail
 (with_reducible refine(zax B A n m l _ (HR.out.below (Hl.out.mono Hw.out))).mono ?_)
 rintro e w2 ⟨⟨pp,rfl⟩,rfl⟩;obtain⟨N,hN⟩:∃ N,tn l=N:=⟨_,rfl⟩;rw[hN];have gr:=zav c2 (J4.out.below (Hl.out.mono Hw.out));go_wp2_with fail;refine bodyPost_ret (v:=.tuple #[.agg #[.int .u8 20,.int .u64 0,.string (sb (l.drop 1)),.slice none 0 0],.bool true]) (by simp[results,results69,go_sem,d0,d1,d2,d3,Hi]) rfl ?_;exact⟨by rfl,(zae gq.out zab _ _ _ _).alloc (by simp;omega) _⟩
theorem ztv (c:Nat)(hc:c < 256)(hk:kof c=20)(GF:176≤c)(B:Nat)(A:Oz)(n m:Nat)(l:Lz)(w:World)(hr:Rd .u8 256 w B A n l)(hB:B≤w.heap.size)(hm:n≤m)(Hu:4≤n) :
  Calls prog 69 #[.int .u8 (c:Int),.slice A n m] w (zbc 20 0 (sb (l.drop 4)) w):=by
 have HK:=zaa (fun w=>zat c hc w);rw[hk] at HK;have gD:=zaa (show Below w.heap.size w (w.alloc (.cells #[.int .u8 0,.int .u64 0,.string ⟨#[]⟩,.slice none 0 0] 43)) from (za _ _));have gG:=zaa (Box.new w (.int .u8 0) (.int .u64 0) (.string ⟨#[]⟩) (.slice none 0 0));have HR:=zaa hr;have Hw:=zaa hB;have Jy:decide ((176:Int)≤(c:Int))=true:=decide_eq_true (by omega);have xH:decide ((c:Int) ≥ 176)=true:=decide_eq_true (by omega);obtain⟨A2,c2,GD,k7,gZ,Gk,gh⟩:=zb A n m 4 Hu hm;have gZ:=fun W=>gZ W 4 rfl;have Gk:=fun W=>Gk W 4 rfl;have J4:=zaa (gh w B l hr);clear GD k7 gh;clear hr hB hk;go_enter func69,ntmps69;go_wp2_with fail
 (with_reducible refine(HK.out _).mono ?_)
 rintro e w1 ⟨rfl,Ha⟩;have Hn:=Ha.size;simp only[World.size_alloc] at Hn;have gq:=zaa (zad gD.out Ha);have Hl:=zaa (gq.out.alloc (by omega) (.cells #[.int .u8 20,.int .u64 0,.string ⟨#[]⟩,.slice none 0 0] 43));obtain⟨d0,d1,d2,d3,df⟩:=(gG.out.call Ha).all;have Hi:w.heap.size < w1.heap.size:=by omega
 have Hp:¬ w.heap.size=w1.heap.size:=by omega
 clear Ha;go_wp2_with fail
 (with_reducible refine(zax B A n m l _ (HR.out.below (Hl.out.mono Hw.out))).mono ?_)
 rintro e w2 ⟨⟨pp,rfl⟩,rfl⟩;obtain⟨N,hN⟩:∃ N,tn l=N:=⟨_,rfl⟩;rw[hN];have gr:=zav c2 (J4.out.below (Hl.out.mono Hw.out));go_wp2_with fail;refine bodyPost_ret (v:=.tuple #[.agg #[.int .u8 20,.int .u64 0,.string (sb (l.drop 4)),.slice none 0 0],.bool true]) (by simp[results,results69,go_sem,d0,d1,d2,d3,Hi]) rfl ?_;exact⟨by rfl,(zae gq.out zab _ _ _ _).alloc (by simp;omega) _⟩
theorem ztw (c:Nat)(hc:c < 256)(hk:kof c=21)(GF:c < 176)(B:Nat)(A:Oz)(n m:Nat)(l:Lz)(w:World)(hr:Rd .u8 256 w B A n l)(hB:B≤w.heap.size)(hm:n≤m)(Hu:1≤n) :
  Calls prog 69 #[.int .u8 (c:Int),.slice A n m] w (zbc 21 0 (sb (l.drop 1)) w):=by
 have HK:=zaa (fun w=>zat c hc w);rw[hk] at HK;have gD:=zaa (show Below w.heap.size w (w.alloc (.cells #[.int .u8 0,.int .u64 0,.string ⟨#[]⟩,.slice none 0 0] 43)) from (za _ _));have gG:=zaa (Box.new w (.int .u8 0) (.int .u64 0) (.string ⟨#[]⟩) (.slice none 0 0));have HR:=zaa hr;have Hw:=zaa hB;have Jy:decide ((176:Int)≤(c:Int))=false:=decide_eq_false (by omega);have xH:decide ((c:Int) ≥ 176)=false:=decide_eq_false (by omega);obtain⟨A2,c2,GD,k7,gZ,Gk,gh⟩:=zb A n m 1 Hu hm;have gZ:=fun W=>gZ W 1 rfl;have Gk:=fun W=>Gk W 1 rfl;have J4:=zaa (gh w B l hr);clear GD k7 gh;clear hr hB hk;go_enter func69,ntmps69;go_wp2_with fail
 (with_reducible refine(HK.out _).mono ?_)
 rintro e w1 ⟨rfl,Ha⟩;have Hn:=Ha.size;simp only[World.size_alloc] at Hn;have gq:=zaa (zad gD.out Ha);have Hl:=zaa (gq.out.alloc (by omega) (.cells #[.int .u8 21,.int .u64 0,.string ⟨#[]⟩,.slice none 0 0] 43));obtain⟨d0,d1,d2,d3,df⟩:=(gG.out.call Ha).all;have Hi:w.heap.size < w1.heap.size:=by omega
 have Hp:¬ w.heap.size=w1.heap.size:=by omega
 clear Ha;go_wp2_with fail
 (with_reducible refine(zax B A n m l _ (HR.out.below (Hl.out.mono Hw.out))).mono ?_)
 rintro e w2 ⟨⟨pp,rfl⟩,rfl⟩;obtain⟨N,hN⟩:∃ N,tn l=N:=⟨_,rfl⟩;rw[hN];have gr:=zav c2 (J4.out.below (Hl.out.mono Hw.out));go_wp2_with fail;refine bodyPost_ret (v:=.tuple #[.agg #[.int .u8 21,.int .u64 0,.string (sb (l.drop 1)),.slice none 0 0],.bool true]) (by simp[results,results69,go_sem,d0,d1,d2,d3,Hi]) rfl ?_;exact⟨by rfl,(zae gq.out zab _ _ _ _).alloc (by simp;omega) _⟩
theorem ztx (c:Nat)(hc:c < 256)(hk:kof c=21)(GF:176≤c)(B:Nat)(A:Oz)(n m:Nat)(l:Lz)(w:World)(hr:Rd .u8 256 w B A n l)(hB:B≤w.heap.size)(hm:n≤m)(Hu:4≤n) :
  Calls prog 69 #[.int .u8 (c:Int),.slice A n m] w (zbc 21 0 (sb (l.drop 4)) w):=by
 have HK:=zaa (fun w=>zat c hc w);rw[hk] at HK;have gD:=zaa (show Below w.heap.size w (w.alloc (.cells #[.int .u8 0,.int .u64 0,.string ⟨#[]⟩,.slice none 0 0] 43)) from (za _ _));have gG:=zaa (Box.new w (.int .u8 0) (.int .u64 0) (.string ⟨#[]⟩) (.slice none 0 0));have HR:=zaa hr;have Hw:=zaa hB;have Jy:decide ((176:Int)≤(c:Int))=true:=decide_eq_true (by omega);have xH:decide ((c:Int) ≥ 176)=true:=decide_eq_true (by omega);obtain⟨A2,c2,GD,k7,gZ,Gk,gh⟩:=zb A n m 4 Hu hm;have gZ:=fun W=>gZ W 4 rfl;have Gk:=fun W=>Gk W 4 rfl;have J4:=zaa (gh w B l hr);clear GD k7 gh;clear hr hB hk;go_enter func69,ntmps69;go_wp2_with fail
 (with_reducible refine(HK.out _).mono ?_)
 rintro e w1 ⟨rfl,Ha⟩;have Hn:=Ha.size;simp only[World.size_alloc] at Hn;have gq:=zaa (zad gD.out Ha);have Hl:=zaa (gq.out.alloc (by omega) (.cells #[.int .u8 21,.int .u64 0,.string ⟨#[]⟩,.slice none 0 0] 43));obtain⟨d0,d1,d2,d3,df⟩:=(gG.out.call Ha).all;have Hi:w.heap.size < w1.heap.size:=by omega
 have Hp:¬ w.heap.size=w1.heap.size:=by omega
 clear Ha;go_wp2_with fail
 (with_reducible refine(zax B A n m l _ (HR.out.below (Hl.out.mono Hw.out))).mono ?_)
 rintro e w2 ⟨⟨pp,rfl⟩,rfl⟩;obtain⟨N,hN⟩:∃ N,tn l=N:=⟨_,rfl⟩;rw[hN];have gr:=zav c2 (J4.out.below (Hl.out.mono Hw.out));go_wp2_with fail;refine bodyPost_ret (v:=.tuple #[.agg #[.int .u8 21,.int .u64 0,.string (sb (l.drop 4)),.slice none 0 0],.bool true]) (by simp[results,results69,go_sem,d0,d1,d2,d3,Hi]) rfl ?_;exact⟨by rfl,(zae gq.out zab _ _ _ _).alloc (by simp;omega) _⟩
theorem zvD:∀ c < 256,kof c≠0→kof c≤18→sw c=0:=by decide
theorem zha (c:Nat)(hc:c < 256)(kB:kof c≠0)(hk:kof c < 22)(B:Nat)(A:Oz)(n m:Nat)(l:Lz)(w:World)(hr:Rd .u8 256 w B A n l)(hB:B≤w.heap.size)(hm:n≤m)(Hu:sw c≤n) :
  Calls prog 69 #[.int .u8 (c:Int),.slice A n m] w (zbc (zag c (l.drop (sw c))).kind (zag c (l.drop (sw c))).num (zag c (l.drop (sw c))).text w):=by
 by_cases h18:kof c≤18
 ·have hs:=zvD c hc kB h18;rw[hs,List.drop_zero];have hx:kof c=1∨kof c=2∨kof c=3∨kof c=4∨kof c=5∨kof c=6∨kof c=7∨kof c=8∨kof c=9∨kof c=10∨kof c=11∨kof c=12∨kof c=13∨kof c=14∨kof c=15∨kof c=16∨kof c=17∨kof c=18:=by omega
  rcases hx with h | h | h | h | h | h | h | h | h | h | h | h | h | h | h | h | h | h
  ·have e:zag c l=.mk 1 0 ⟨#[]⟩ []:=by unfold zag;rw[h];simp
   rw[e];exact rd_1 c hc h B A n m l w hr hB
  ·by_cases qL:c=65
   ·have e:zag c l=.mk 2 1 ⟨#[]⟩ []:=by unfold zag;rw[h];simp[qL]
    rw[e];exact zvs c hc h qL B A n m l w hr hB
   ·have e:zag c l=.mk 2 (tn l) ⟨#[]⟩ []:=by unfold zag;rw[h];simp[qL]
    rw[e];exact zvt c hc h qL B A n m l w hr hB
  ·have e:zag c l=.mk 3 (tn l) ⟨#[]⟩ []:=by unfold zag;rw[h];simp
   rw[e];exact rd_3 c hc h B A n m l w hr hB
  ·have e:zag c l=.mk 4 (tn l) ⟨#[]⟩ []:=by unfold zag;rw[h];simp
   rw[e];exact rd_4 c hc h B A n m l w hr hB
  ·have e:zag c l=.mk 5 (tn l) ⟨#[]⟩ []:=by unfold zag;rw[h];simp
   rw[e];exact rd_5 c hc h B A n m l w hr hB
  ·have e:zag c l=.mk 6 (tn l) ⟨#[]⟩ []:=by unfold zag;rw[h];simp
   rw[e];exact rd_6 c hc h B A n m l w hr hB
  ·have e:zag c l=.mk 7 (sgw (tn l) l.length) ⟨#[]⟩ []:=by unfold zag;rw[h];simp
   rw[e];exact rd_7 c hc h B A n m l w hr hB
  ·have e:zag c l=.mk 8 (sgw (tn l) l.length) ⟨#[]⟩ []:=by unfold zag;rw[h];simp
   rw[e];exact rd_8 c hc h B A n m l w hr hB
  ·have e:zag c l=.mk 9 (sgw (tn l) l.length) ⟨#[]⟩ []:=by unfold zag;rw[h];simp
   rw[e];exact rd_9 c hc h B A n m l w hr hB
  ·have e:zag c l=.mk 10 (sgw (tn l) l.length) ⟨#[]⟩ []:=by unfold zag;rw[h];simp
   rw[e];exact zvx c hc h B A n m l w hr hB
  ·have e:zag c l=.mk 11 (tn l) ⟨#[]⟩ []:=by unfold zag;rw[h];simp
   rw[e];exact zvu c hc h B A n m l w hr hB
  ·have e:zag c l=.mk 12 (tn l) ⟨#[]⟩ []:=by unfold zag;rw[h];simp
   rw[e];exact zvv c hc h B A n m l w hr hB
  ·have e:zag c l=.mk 13 (tn l) ⟨#[]⟩ []:=by unfold zag;rw[h];simp
   rw[e];exact zvw c hc h B A n m l w hr hB
  ·have e:zag c l=.mk 14 (sgw (tn l) l.length) ⟨#[]⟩ []:=by unfold zag;rw[h];simp
   rw[e];exact zvy c hc h B A n m l w hr hB
  ·have e:zag c l=.mk 15 0 (sb l) []:=by unfold zag;rw[h];simp
   rw[e];exact zvz c hc h B A n m l w hr hB
  ·have e:zag c l=.mk 16 0 (sb l) []:=by unfold zag;rw[h];simp
   rw[e];exact zvA c hc h B A n m l w hr hB
  ·have e:zag c l=.mk 17 0 (sb l) []:=by unfold zag;rw[h];simp
   rw[e];exact zvB c hc h B A n m l w hr hB
  ·have e:zag c l=.mk 18 0 (sb l) []:=by unfold zag;rw[h];simp
   rw[e];exact zvC c hc h B A n m l w hr hB
 ·have hx:kof c=19∨kof c=20∨kof c=21:=by omega
  have ht:=zme c hc hx;rcases hx with h | h | h
  ·have e:zag c (l.drop (sw c))=.mk 19 0 (sb (l.drop (sw c))) []:=by unfold zag;rw[h];simp
   rw[e];rcases ht with ⟨hs,GF⟩ | ⟨hs,GF⟩
   ·rw[hs] at Hu ⊢;exact zts c hc h GF B A n m l w hr hB hm Hu
   ·rw[hs] at Hu ⊢;exact ztt c hc h GF B A n m l w hr hB hm Hu
  ·have e:zag c (l.drop (sw c))=.mk 20 0 (sb (l.drop (sw c))) []:=by unfold zag;rw[h];simp
   rw[e];rcases ht with ⟨hs,GF⟩ | ⟨hs,GF⟩
   ·rw[hs] at Hu ⊢;exact ztu c hc h GF B A n m l w hr hB hm Hu
   ·rw[hs] at Hu ⊢;exact ztv c hc h GF B A n m l w hr hB hm Hu
  ·have e:zag c (l.drop (sw c))=.mk 21 0 (sb (l.drop (sw c))) []:=by unfold zag;rw[h];simp
   rw[e];rcases ht with ⟨hs,GF⟩ | ⟨hs,GF⟩
   ·rw[hs] at Hu ⊢;exact ztw c hc h GF B A n m l w hr hB hm Hu
   ·rw[hs] at Hu ⊢;exact ztx c hc h GF B A n m l w hr hB hm Hu
end Dec
end Go.Proofs.YtbbbanfggcediaaGreatDoor
