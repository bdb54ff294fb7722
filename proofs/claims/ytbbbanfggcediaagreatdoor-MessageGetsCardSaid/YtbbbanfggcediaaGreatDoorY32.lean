/- Contracts, each with its premises. -/
import Derived.Test.YtbbbanfggcediaaGreatDoorY23
import Derived.Test.YtbbbanfggcediaaGreatDoorY31
import Derived.Test.YtbbbanfggcediaaGreatDoorY30
set_option maxRecDepth 100000
set_option maxHeartbeats 8000000
namespace Go.Proofs.YtbbbanfggcediaaGreatDoor
open _root_.Go.Proofs.Tryz
open Nat renaming le_trans→ydl
open List renaming length_append→ydj,length_drop→ydk
namespace Me
open Go.RowKit Utf Val Fl Oc Dec V
open Enc hiding za3
abbrev nM:Value:=.agg #[.int .u8 0,.int .u32 0,.int .u32 0,.string ⟨#[]⟩,.slice none 0 0]
theorem zq9 {b:Lz}{s:St}(hb:b≠[])(h:(decD b).2.2≠0∨za5 s (decD b).1=none):getN b.length s b=none:=by
 cases b with
 | nil=>exact absurd rfl hb
 | cons x b=>
  rw[show (x::b).length=b.length+1 from rfl,zcu _ s (by simp)];by_cases hd:(decD (x::b)).2.2=0
  ·rw[if_pos hd,h.resolve_left fun e=>e hd]
  ·rw[if_neg hd]
theorem zty {b:Lz}{s s':St}(hb:b≠[])(hd:(decD b).2.2=0)(h:za5 s (decD b).1=some s'):getN b.length s b=getN (b.drop (decD b).2.1).length s' (b.drop (decD b).2.1):=by
 cases b with
 | nil=>exact absurd rfl hb
 | cons x b=>
  rw[show (x::b).length=b.length+1 from rfl,zcu _ s (by simp),if_pos hd,h];have:=zfa hd;exact zeO _ _ _ _ (by simp only[ydk,List.length_cons] at *;omega) zab
noncomputable def endN (o:Option St):Option M:=match o with
 | none=>none
 | some s=>finM s
structure GX (w W wr:World) (A:Oz) (n:Nat) (b0:Lz) (k:Nat) (s:St):Prop where
 rd:Rd .u8 256 wr w.heap.size A n b0
 le:k≤n
 msg:MG wr W.heap.size (w.heap.size+1) s.m
 off:Off (fun i=>i=w.heap.size+1∨W.heap.size≤i) W wr
 id0:s.last < 115→s.m.id=⟨#[]⟩
 last:s.last≤120
 len:s.m.body.length≤k * 16777216
 eq:getM b0=endN (getN (b0.drop k).length s (b0.drop k))
section
variable {w W wr w':World} {A:Oz} {n k:Nat} {b0:Lz} {s s':St}
theorem GX.call (h:GX w W wr A n b0 k s)(hW:w.heap.size≤W.heap.size)(hb:Below wr.heap.size wr w'):GX w W w' A n b0 k s:=
 ⟨h.rd.below (hb.mono (ydl hW h.off.size)),h.le,h.msg.call hb,h.off.next hb,h.id0,h.last,h.len,h.eq⟩
theorem GX.bad {v:V}{fn er:Nat}(h:GX w W wr A n b0 k s)(hb:b0.drop k≠[])(hd:decD (b0.drop k)=(v,fn,er))(hs:er≠0∨za5 s v=none):getM b0=none:=by
 rw[h.eq,zq9 hb (by rw[hd];exact hs)];rfl
theorem GX.next {w5:World}{v:V}{fn:Nat}(h:GX w W wr A n b0 k s)(hs:w.heap.size+1+1≤W.heap.size)(ho:Off (fun i=>i=w.heap.size+1∨W.heap.size≤i) wr w5)(hm:MG w5 W.heap.size (w.heap.size+1) s'.m)(hb:b0.drop k≠[])(hd:decD (b0.drop k)=(v,fn,0))(gr:za5 s v=some s')
  (hid:s'.last < 115→s'.m.id=⟨#[]⟩) (hl:s'.last≤120) (hlen:s'.m.body.length≤(k+fn) * 16777216) (JB:k+fn≤n):GX w W w5 A n b0 (k+fn) s':=by
 refine⟨h.rd.below (ho.below (by have:=h.off.size;omega) fun i hi=>by omega),JB,hm,h.off.trans ho,hid,hl,hlen,?_⟩;rw[h.eq,zty hb (by rw[hd]) (by rw[hd];exact gr),hd];simp only[List.drop_drop]
end
theorem zu0 {k n fn er:Nat}{t:ByteArray}{ks:List V}{w w':World}{e:Ending}(h:zls (.mk k n t ks,fn,er) w e w'):∃ A l c,e=.returned (.tuple #[.agg #[.int .u8 (k:Int),.int .u64 (n:Int),.string t,.slice A l c],.int .i64 (fn:Int),.int .i64 (er:Int)])∧k < 256∧n < 18446744073709551616∧Nw w.heap.size w' ks A l c∧Below w.heap.size w w':=by
 obtain⟨k',n',t',ks',A,l,c,h1,h2,h3,h4,h5,h6⟩:=h;simp only[V.mk.injEq] at h1;obtain⟨rfl,rfl,rfl,rfl⟩:=h1;exact⟨A,l,c,h2,h3,h4,h5,h6⟩
theorem zo4 (k n:Nat)(t:ByteArray)(ks:List V)(A:Oz)(l c:Nat)(w:World)(h:k=25→∃ d x,ks=[d,x])(hK:Kd w ks A l c):Calls prog 18 #[.agg #[.int .u8 (k:Int),.int .u64 (n:Int),.string t,.slice A l c]] w (zdv (.mk k n t ks) w):=by
 by_cases kH:k=25
 ·obtain⟨d,x,rfl⟩:=h kH;subst kH;exact zoE n t d x A l c w hK
 ·exact zoD k n t ks A l c w kH
theorem ztz (A:Oz)(n c:Nat)(l:Lz)(w:World)(B:Nat)(hr:Rd .u8 256 w B A n l)(hB:B≤w.heap.size)(hc:n≤c)(hn:n≤8192):Calls prog 17 #[.slice A n c] w (zf9 (decD l) w):=by
 obtain⟨⟨⟨vk,vn,vt,vks⟩,fn,er⟩,hd⟩:∃ r,decD l=r:=⟨_,rfl⟩;have he:decX l=(.mk vk vn vt vks,fn,er):=(zoH l).trans hd;rw[hd];refine(zo3 B A n c l w hr hB hc (by omega) fun v r h=>?_).mono fun e w' hg=>zu0 (he▸hg);have:=zjs h;rw[hr.len] at this;omega
theorem zhz {b:Lz}(hb:b.length≤8192):bulk (decD b).1≤16777216:=by
 rw[←zoH];unfold decX
 split
 ·simp[zeroV,bulk,zai,ByteArray.size]
 ·rename_i v r h;have h1:=zjs h;by_cases ho:okB v=true
  ·rw[if_pos ho]
   show bulk v≤_
   omega
  ·rw[if_neg ho];simp[zeroV,bulk,zai,ByteArray.size]
theorem zu1 {s:St}{v x:V}{i:Nat}(h:zb8 v=some (i,x))(ho:¬ (112+i < s.last∨(112+i=s.last∧i≠5))):za5 s v=(if i=0 then (match zcQ v s.m with
   | none=>none
   | some m'=>some ⟨m',112,s.body⟩)
  else if i=3 then (match zc3 v s.m with
   | none=>none
   | some m'=>some ⟨m',115,s.body⟩)
  else if i=5 then (if x.kind=19 then some ⟨{ s.m with body:=s.m.body++tb x.text },117,true⟩ else none)
  else if i=6∨i=7 then none
  else if x.kind=23 then some ⟨s.m,112+i,s.body⟩ else none):=by
 unfold za5 zcQ zc3;rw[h];simp only;rw[if_neg ho]
 repeat' split
 all_goals simp_all
theorem zmi {v:V}{m m':M}(h:zcQ v m=some m'):m'.body=m.body∧m'.id=m.id:=by
 unfold zcQ at h
 split at h
 ·cases h
 ·split at h
  ·cases h
  ·injection h with h;subst h;exact⟨rfl,rfl⟩
theorem zmj {v:V}{m m':M}(h:zc3 v m=some m'):m'.body=m.body∧m'.p=m.p:=by
 unfold zc3 at h
 split at h
 ·cases h
 ·split at h
  ·cases h
  ·injection h with h;subst h;exact⟨rfl,rfl⟩
theorem ztA {v x:V}{i:Nat}(h:zb8 v=some (i,x)):i < 9∧x.text.size≤bulk v:=by
 unfold zb8 at h
 split at h
 ·split at h
  ·rename_i d y hk;cases hf:(List.range 9).find? (named d) with
   | none=>rw[hf] at h;cases h
   | some j=>
    rw[hf] at h;simp only[Option.map_some,Option.some.injEq,Prod.mk.injEq] at h;obtain⟨rfl,rfl⟩:=h;refine⟨List.mem_range.1 (List.mem_of_find?_eq_some hf),?_⟩;obtain⟨vk,vn,vt,vks⟩:=v;obtain⟨xk,xn,xt,xs⟩:=y;have Gn:vks=[d,.mk xk xn xt xs]:=hk;subst Gn
    show xt.size≤_
    simp only[bulk,zai];omega
  ·cases h
 ·cases h
theorem zhd {a k fn:Nat}(h:a≤k * 16777216):a≤(k+fn) * 16777216:=ydl h (Nat.mul_le_mul_right _ (Nat.le_add_right _ _))
theorem zo5 (A:Oz)(n c:Nat)(b:Lz)(w:World)(hr:Rd .u8 256 w w.heap.size A n b)(kz:n≤c)(hn:n≤8192):Calls prog 7 #[.slice A n c] w (zfL (getM b) w):=by
 have GK:Below w.heap.size w ((w.alloc (.cells #[.int .u8 0,.int .u32 0,.int .u32 0,.string ⟨#[]⟩,.slice none 0 0] 27)).alloc (.cells #[.int .u8 4,.int .u32 0,.int .u32 0,.string ⟨#[]⟩,.slice none 0 0] 27)):=zaw w _ _;have j1:BxM ((w.alloc (.cells #[.int .u8 0,.int .u32 0,.int .u32 0,.string ⟨#[]⟩,.slice none 0 0] 27)).alloc (.cells #[.int .u8 4,.int .u32 0,.int .u32 0,.string ⟨#[]⟩,.slice none 0 0] 27)) w.heap.size (.int .u8 0) (.int .u32 0) (.int .u32 0) (.string ⟨#[]⟩) (.slice none 0 0):=(BxM.new _ _ _ _ _ _).alloc _;have GJ:BxM ((w.alloc (.cells #[.int .u8 0,.int .u32 0,.int .u32 0,.string ⟨#[]⟩,.slice none 0 0] 27)).alloc (.cells #[.int .u8 4,.int .u32 0,.int .u32 0,.string ⟨#[]⟩,.slice none 0 0] 27)) (w.heap.size+1) (.int .u8 4) (.int .u32 0) (.int .u32 0) (.string ⟨#[]⟩) (.slice none 0 0):=by
  have:=BxM.new (w.alloc (.cells #[.int .u8 0,.int .u32 0,.int .u32 0,.string ⟨#[]⟩,.slice none 0 0] 27)) (.int .u8 4) (.int .u32 0) (.int .u32 0) (.string ⟨#[]⟩) (.slice none 0 0)
  rwa [World.size_alloc] at this
 have Qr:w.heap.size+1+1≤((w.alloc (.cells #[.int .u8 0,.int .u32 0,.int .u32 0,.string ⟨#[]⟩,.slice none 0 0] 27)).alloc (.cells #[.int .u8 4,.int .u32 0,.int .u32 0,.string ⟨#[]⟩,.slice none 0 0] 27)).heap.size:=by simp
 have HR:=zaa hr;have HN:=zaa hn;have ug:=zaa kz;go_enter func7,ntmps7;go_wp2_with fail;obtain⟨W,hW⟩:∃ W,(w.alloc (.cells #[.int .u8 0,.int .u32 0,.int .u32 0,.string ⟨#[]⟩,.slice none 0 0] 27)).alloc (.cells #[.int .u8 4,.int .u32 0,.int .u32 0,.string ⟨#[]⟩,.slice none 0 0] 27)=W:=⟨_,rfl⟩;rw[hW] at GK j1 GJ Qr ⊢;have gC:=zaa GK;have Kl:=zaa j1;have gK:=zaa Qr;have HL:Hid (GX w W W A n b 0 s0):=zaa ⟨hr.below GK,Nat.zero_le _,⟨by omega,zab,none,0,0,GJ,Utf.Own.nil _ _ _ _ _⟩,Off.refl _ _,fun _=>rfl,by simp[s0],by simp[s0,m0],rfl⟩;clear hr hn kz GK j1 GJ Qr hW;go_loopw [5,6,7,8,9,10,11,12,13,14] (fun s5 s6 s7 _ _ _ _ _ _ _ wr=>∃ (k:Nat) (s:St),s5=.int .u64 (s.last:Int)∧s6=.bool s.body∧s7=.int .i64 (k:Int)∧GX w W wr A n b k s) (fun _ _ s7 _ _ _ _ _ _ _ _=>n - (RowKit.intOf s7).toNat)
 case atStart=>exact⟨0,s0,rfl,rfl,rfl,HL.out⟩
 case round=>
  obtain⟨k,s,rfl,rfl,rfl,hG⟩:=hrel;have HG:=zaa hG;obtain⟨sm,sl,sb⟩:=s;simp only;by_cases JB:k < n
  case neg=>
   obtain rfl:k=n:=by have:=hG.le;omega
   have jI:decide ((k:Int) < (k:Int))=false:=by simp
   have Hg:b.drop k=[]:=List.drop_eq_nil_of_le (by rw[hG.rd.len];exact zab);have Yr:Hid (getM b=finM ⟨sm,sl,sb⟩):=zaa (by rw[hG.eq,Hg];rfl);have Gf:=zaa hG.off;obtain⟨Gp,GP,Ag,ng,cg,Hz,Hf⟩:=hG.msg;obtain⟨y0,y1,y2,y3,y4,yf⟩:=Hz.all;simp only at y0 y1 y2 y3 y4;have cz:=zaa Hf;have QW:sm.body.length=ng:=Hf.len;cases sb with
   | false=>
    have Gd:Hid (getM b=none):=zaa (by rw[Yr.out];rfl);clear hG HL Gp GP Hz Hf Hg JB QW;obtain⟨z0,z1,z2,z3,z4,zf⟩:=(za7 Gf.out Kl.out gK.out).all;go_wp2
    try rw[Exit.noGoto_ret]
    refine bodyPost_ret (v:=.tuple #[nM,.int .i64 6]) (by simp[results,results7,go_sem,z0,z1,z2,z3,z4]) rfl ?_;rw[Gd.out];exact⟨rfl,zaE (zbr Gf.out gC.out gK.out) zab _ _ _ _ _⟩
   | true=>
    by_cases hl:ng≤2048
    ·have d1:decide ((2048:Int) < (ng:Int))=false:=by simp;omega
     have HYE:Hid (getM b=some sm):=zaa (by rw[Yr.out];unfold finM;rw[if_pos ⟨rfl,by rw[QW];exact hl⟩]);obtain⟨z0,z1,z2,z3,z4,zf⟩:=(za7 Gf.out Kl.out gK.out).all;clear hG HL Gp GP Hz Hf Hg JB QW;go_wp2
     try rw[Exit.noGoto_ret]
     refine bodyPost_ret (v:=.tuple #[mV sm.p sm.ttl sm.n sm.id Ag ng cg,.int .i64 0]) (by simp[results,results7,go_sem,z0,z1,z2,z3,z4,mV]) rfl ?_;rw[HYE.out];exact⟨Ag,ng,cg,rfl,(zd6 cz.out (zlf _ _ _ _ _ _) fun i hi e=>by have:=gK.out;omega).mono gC.out.size,zaE (zbr Gf.out gC.out gK.out) zab _ _ _ _ _⟩
    ·have d1:decide ((2048:Int) < (ng:Int))=true:=by simp;omega
     have Gd:Hid (getM b=none):=zaa (by rw[Yr.out];unfold finM;rw[if_neg fun h=>hl (by rw[←QW];exact h.2)]);clear hG HL Gp GP Hz Hf Hg JB QW hl;obtain⟨z0,z1,z2,z3,z4,zf⟩:=(za7 Gf.out Kl.out gK.out).all;go_wp2
     try rw[Exit.noGoto_ret]
     refine bodyPost_ret (v:=.tuple #[nM,.int .i64 6]) (by simp[results,results7,go_sem,z0,z1,z2,z3,z4]) rfl ?_;rw[Gd.out];exact⟨rfl,zaE (zbr Gf.out gC.out gK.out) zab _ _ _ _ _⟩
  case pos=>
   have jI:decide ((k:Int) < (n:Int))=true:=by simpa using JB
   have qX:b.drop k≠[]:=fun e=>by have:=congrArg List.length e;simp only[ydk,List.length_nil] at this;rw[hG.rd.len] at this;omega
   have hlen:(b.drop k).length≤8192:=by rw[ydk,hG.rd.len];have:=HN.out;omega
   have Ys:=zhz hlen;obtain⟨Ab,cb,Jf,_,q1,q2,uh⟩:=zb A n c k (by omega) ug.out;have q1':=fun W=>q1 W k rfl;have q2':=fun W=>q2 W k rfl;have HD:=zaa (ztz Ab (n - k) cb (b.drop k) wr w.heap.size (uh _ _ _ hG.rd) (by have:=hG.off.size;have:=gK.out;omega) Jf (by have:=HN.out;omega));obtain⟨⟨⟨vk,vn,vt,vks⟩,fn,er⟩,G9⟩:∃ r,decD (b.drop k)=r:=⟨_,rfl⟩;rw[G9] at HD Ys;have gN:=zaa G9;have gU:=zaa qX;have bC:Hid (vk=25→∃ d x,vks=[d,x]):=zaa (fun h=>by have:=zld (b:=b.drop k) (by rw[gN.out];exact h);rw[gN.out] at this;exact this);have KC:=zaa Ys;have cM:=zaa JB;clear qX hlen hG G9 HL q1 q2 uh Jf Ys;go_wp2_with fail
   (with_reducible refine HD.out.mono ?_)
   intro e w1 jE;obtain⟨vA,vl,vc,rfl,Kb,kC,j7,Ha⟩:=zuu jE;clear jE;have qb:Box (w1.alloc (.cells #[.int .u8 (vk:Int),.int .u64 (vn:Int),.string vt,.slice vA vl vc] 43)) w1.heap.size (.int .u8 (vk:Int)) (.int .u64 (vn:Int)) (.string vt) (.slice vA vl vc):=Box.new _ _ _ _ _;have He:Below wr.heap.size wr (w1.alloc (.cells #[.int .u8 (vk:Int),.int .u64 (vn:Int),.string vt,.slice vA vl vc] 43)):=Ha.alloc Ha.size _;have Qu:=zaa (HG.out.call (by have:=gK.out;omega) He);have jr:=zaa (j7.kd.alloc (.cells #[.int .u8 (vk:Int),.int .u64 (vn:Int),.string vt,.slice vA vl vc] 43));have vp:=zaa qb;have xE:=zaa kC;have XK:=zo4 vk vn vt vks vA vl vc _ bC.out jr.out;unfold zdv at XK;obtain⟨v0,v1,v2,v3,vf⟩:=qb.all;clear Ha He j7 qb Kb kC HD HG;cases KJ:zb8 (.mk vk vn vt vks) with
   | none=>
    rw[KJ] at XK;have bI:=zaa XK;have Gd:Hid (getM b=none):=zaa (Qu.out.bad gU.out gN.out (.inr (by unfold za5;rw[KJ])));clear XK KJ;go_wp2_with fail
    (with_reducible refine bI.out.mono ?_)
    rintro e w3 ⟨rfl,Hj⟩;have Gf:=zaa (Qu.out.off.next (Hj.alloc Hj.size (.cells #[.int .u8 0,.int .u64 0,.string ⟨#[]⟩,.slice none 0 0] 43)));clear Hj;by_cases xF:er=0
    ·subst xF;simp only[Int.cast_ofNat_Int];obtain⟨z0,z1,z2,z3,z4,zf⟩:=(za7 Gf.out Kl.out gK.out).all;go_wp2
     try rw[Exit.noGoto_ret]
     refine bodyPost_ret (v:=.tuple #[nM,.int .i64 6]) (by simp[results,results7,go_sem,z0,z1,z2,z3,z4]) rfl ?_;rw[Gd.out];exact⟨rfl,zaE (zbr Gf.out gC.out gK.out) zab _ _ _ _ _⟩
    ·have Qp:((er:Int)==0)=false:=by rw[zac];omega
     have xB:((er:Int) != 0)=true:=by rw[bne,Qp];rfl
     obtain⟨z0,z1,z2,z3,z4,zf⟩:=(za7 Gf.out Kl.out gK.out).all;go_wp2
     try rw[Exit.noGoto_ret]
     refine bodyPost_ret (v:=.tuple #[nM,.int .i64 6]) (by simp[results,results7,go_sem,z0,z1,z2,z3,z4]) rfl ?_;rw[Gd.out];exact⟨rfl,zaE (zbr Gf.out gC.out gK.out) zab _ _ _ _ _⟩
   | some ix=>
    obtain⟨i,xk,xn,xt,xs⟩:=ix;obtain⟨KT,V'⟩:=ztA KJ;rw[KJ] at XK;have bI:=zaa XK;have KI:=zaa KJ;have qH:=zaa (show xt.size≤16777216 from ydl V' KC.out);clear XK KJ V';go_wp2_with fail
    (with_reducible refine bI.out.mono ?_)
    rintro e w3 ⟨⟨xA,xl,xc,rfl,hxK,UN,hxn⟩,Hj⟩;simp only[V.kind,V.num,V.text] at UN hxn ⊢;have gl:=Hj.alloc Hj.size (.cells #[.int .u8 (xk:Int),.int .u64 (xn:Int),.string xt,.slice xA xl xc] 43);have YA:=zaa (Box.new w3 (.int .u8 (xk:Int)) (.int .u64 (xn:Int)) (.string xt) (.slice xA xl xc));have GO:=zaa (Qu.out.call (by have:=gK.out;omega) gl);have Uv:=zaa (vp.out.call gl);have Xx:=zaa (jr.out.call gl);have Gf:=zaa (Qu.out.off.next gl);clear Hj gl hxK UN hxn v0 v1 v2 v3 vf Qu vp jr bI;by_cases xF:er=0
    case neg=>
     have Qp:((er:Int)==0)=false:=by rw[zac];omega
     have xB:((er:Int) != 0)=true:=by rw[bne,Qp];rfl
     have Gd:Hid (getM b=none):=zaa (GO.out.bad gU.out gN.out (.inl xF));obtain⟨z0,z1,z2,z3,z4,zf⟩:=(za7 Gf.out Kl.out gK.out).all;go_wp2
     try rw[Exit.noGoto_ret]
     refine bodyPost_ret (v:=.tuple #[nM,.int .i64 6]) (by simp[results,results7,go_sem,z0,z1,z2,z3,z4]) rfl ?_;rw[Gd.out];exact⟨rfl,zaE (zbr Gf.out gC.out gK.out) zab _ _ _ _ _⟩
    case pos=>
     subst xF;simp only[Int.cast_ofNat_Int];by_cases Gg:112+i < sl∨(112+i=sl∧i≠5)
     case pos=>
      have Gd:Hid (getM b=none):=zaa (GO.out.bad gU.out gN.out (.inr (zk7 KI.out Gg)));obtain⟨cd,km⟩:∃ cd,112+i=cd:=⟨_,rfl⟩;rw[km] at Gg ⊢;by_cases Hi:cd < sl
      ·have t1:decide ((cd:Int) < (sl:Int))=true:=by simpa using Hi
       clear Gg km KT;obtain⟨z0,z1,z2,z3,z4,zf⟩:=(za7 Gf.out Kl.out gK.out).all;go_wp2
       try rw[Exit.noGoto_ret]
       refine bodyPost_ret (v:=.tuple #[nM,.int .i64 6]) (by simp[results,results7,go_sem,z0,z1,z2,z3,z4]) rfl ?_;rw[Gd.out];exact⟨rfl,zaE (zbr Gf.out gC.out gK.out) zab _ _ _ _ _⟩
      ·have h117:cd≠117:=by omega
       have t1:decide ((cd:Int) < (sl:Int))=false:=by simp;omega
       have t2:((cd:Int)==(sl:Int))=true:=by rw[beq_iff_eq];omega
       have t3:((cd:Int)==117)=false:=by rw[zac];omega
       have t4:((cd:Int) != 117)=true:=by rw[bne,t3];rfl
       obtain rfl:cd=sl:=by omega
       clear Gg km KT Hi;obtain⟨z0,z1,z2,z3,z4,zf⟩:=(za7 Gf.out Kl.out gK.out).all;go_wp2
       try rw[Exit.noGoto_ret]
       refine bodyPost_ret (v:=.tuple #[nM,.int .i64 6]) (by simp[results,results7,go_sem,z0,z1,z2,z3,z4]) rfl ?_;rw[Gd.out];exact⟨rfl,zaE (zbr Gf.out gC.out gK.out) zab _ _ _ _ _⟩
     case neg=>
      have Hh:=zu1 (s:=⟨sm,sl,sb⟩) KI.out Gg;have vr:=zfa (b:=b.drop k) (by rw[gN.out]);rw[gN.out,ydk,GO.out.rd.len] at vr;obtain⟨gZ,Gk⟩:1≤fn∧fn≤n - k:=vr;have hle:¬ (112+i < sl):=fun h=>Gg (.inl h);have t1:decide ((((112+i:Nat):Int)) < (sl:Int))=false:=by simp;omega
      have cP:sl≤120:=GO.out.last;obtain⟨cd,km⟩:∃ cd,112+i=cd:=⟨_,rfl⟩;rw[km] at t1 ⊢;have QO:=zaa km;have ik:IntKind.i64.wrap ((k:Int)+(fn:Int))=((k+fn:Nat):Int):=by rw[show (k:Int)+(fn:Int)=((k+fn:Nat):Int) by simp];exact IntWalk.i64_in _ (by have:=HN.out;omega)
      by_cases heq:cd=sl
      ·obtain rfl:i=5:=by
        rcases Nat.lt_or_ge (112+i) sl with h | h
        ·omega
        ·by_cases h5:i=5
         ·exact h5
         ·exact absurd (.inr ⟨by omega,h5⟩) Gg
       have t2:((cd:Int)==(sl:Int))=true:=by rw[beq_iff_eq];omega
       have t3:((cd:Int)==117)=true:=by rw[beq_iff_eq];omega
       have t4:((cd:Int) != 117)=false:=by rw[bne,t3];rfl
       have s112:((cd:Int)==112)=false:=by rw[zac];omega
       have s115:((cd:Int)==115)=false:=by rw[zac];omega
       have s118:((cd:Int)==118)=false:=by rw[zac];omega
       have s119:((cd:Int)==119)=false:=by rw[zac];omega
       clear heq;obtain⟨x0,x1,x2,x3,xf⟩:=YA.out.all;obtain⟨Gp,GP,Ag,ng,cg,Hz,Hf⟩:=GO.out.msg;obtain⟨y0,y1,y2,y3,y4,yf⟩:=Hz.all;simp only at y0 y1 y2 y3 y4;have QW:sm.body.length=ng:=Hf.len;have HO:=zaa Hf;have xJ:=zaa Hz;have HM:=zaa (And.intro Gp GP);have XL:Hid (ng≤k * 16777216):=zaa (by have:=GO.out.len;simp only at this;omega);have jT:=zaa QW;clear Hf Hz Gp GP QW;by_cases hx:xk=19
       ·have e19:((xk:Int)==19)=true:=by rw[beq_iff_eq];omega
        have Ke:Hid (za5 ⟨sm,sl,sb⟩ (.mk vk vn vt vks)=some ⟨{ sm with body:=sm.body++tb xt },117,true⟩):=zaa (by rw[Hh,if_neg (by decide),if_neg (by decide),if_pos rfl];exact if_pos hx);clear Hh Gg KT hx;go_wp2_with (first
         | (at_builtin;refine zbC (base:=W.heap.size) (t:=xt) rfl _ _ rfl rfl HO.out rfl (by have:=XL.out;have:=qH.out;have:=HN.out;omega) HM.out.2 ?_;intro A5 c5 w5 VJ j4;have gp:=(Below.refl W.heap.size _).grown j4 HM.out.2 (fun k hk=>(HO.out.blk k hk).1);have Qt:BxM w5 (w.heap.size+1) _ _ _ _ _:=(gp.block (w.heap.size+1) HM.out.1).trans xJ.out;obtain⟨u0,u1,u2,u3,u4,uf⟩:=Qt.all;have GR:=(zeS (g:=w.heap.size+1) gp).trans (Off.set w5 4 (.slice A5 (ng+xt.size) c5) (.inl rfl)))
         | fail)
        have bh:=MG.set4 HM.out.1 (ydl HM.out.2 gp.size) Qt VJ;have J5:=zaa (GO.out.next (s':=⟨{ sm with body:=sm.body++tb xt },117,true⟩) gK.out GR bh gU.out gN.out Ke.out (fun h=>by simp at h) (by simp) (by have:=jT.out;have:=XL.out;have:=qH.out;simp only[ydj,zov];omega) (by omega));go_roundw
        case rel=>exact⟨k+fn,_,by rw[show cd=117 by have:=QO.out;omega],rfl,by first | rfl | go_num,J5.out⟩
        case measure=>simp[RowKit.intOf];omega
       ·have e19:((xk:Int)==19)=false:=by rw[zac];omega
        have Gd:Hid (getM b=none):=zaa (GO.out.bad gU.out gN.out (.inr (by rw[Hh,if_neg (by decide),if_neg (by decide),if_pos rfl];exact if_neg hx)));clear Hh Gg KT hx;go_wp2_with (first
         | (at_builtin;refine zbC (base:=W.heap.size) (t:=xt) rfl _ _ rfl rfl HO.out rfl (by have:=XL.out;have:=qH.out;have:=HN.out;omega) HM.out.2 ?_;intro A5 c5 w5 VJ j4;have gp:=(Below.refl W.heap.size _).grown j4 HM.out.2 (fun k hk=>(HO.out.blk k hk).1);have Qt:BxM w5 (w.heap.size+1) _ _ _ _ _:=(gp.block (w.heap.size+1) HM.out.1).trans xJ.out;obtain⟨u0,u1,u2,u3,u4,uf⟩:=Qt.all;have GR:=(zeS (g:=w.heap.size+1) gp).trans (Off.set w5 4 (.slice A5 (ng+xt.size) c5) (.inl rfl));have vJ:=zaa (Gf.out.trans GR);obtain⟨z0,z1,z2,z3,z4,zf⟩:=(za7 vJ.out Kl.out gK.out).all)
         | fail)
        try rw[Exit.noGoto_ret]
        refine bodyPost_ret (v:=.tuple #[nM,.int .i64 6]) (by simp[results,results7,go_sem,z0,z1,z2,z3,z4]) rfl ?_;rw[Gd.out];exact⟨rfl,zaE (zbr vJ.out gC.out gK.out) zab _ _ _ _ _⟩
      ·have t2:((cd:Int)==(sl:Int))=false:=by rw[zac];omega
       have hc:i=0∨i=1∨i=2∨i=3∨i=4∨i=5∨i=6∨i=7∨i=8:=by omega
       rcases hc with rfl | rfl | rfl | rfl | rfl | rfl | rfl | rfl | rfl
       ·have s112:((cd:Int)==112)=true:=by rw[beq_iff_eq];omega
        have s115:((cd:Int)==115)=false:=by rw[zac];omega
        have s117:((cd:Int)==117)=false:=by rw[zac];omega
        have s118:((cd:Int)==118)=false:=by rw[zac];omega
        have s119:((cd:Int)==119)=false:=by rw[zac];omega
        have hH:=zqX vk vn vt vks vA vl vc (w.heap.size+1) W.heap.size sm _ KC.out xE.out Xx.out GO.out.msg;obtain⟨v0,v1,v2,v3,vf⟩:=Uv.out.all;cases hh:zcQ (.mk vk vn vt vks) sm with
        | none=>
         rw[hh] at hH Hh;have HH:=zaa hH;have Gd:Hid (getM b=none):=zaa (GO.out.bad gU.out gN.out (.inr Hh));clear hH hh Hh Gg KT;go_wp2_with fail
         (with_reducible refine HH.out.mono ?_)
         rintro e w5 ⟨rfl,GR⟩;have Gf:=zaa (Gf.out.trans GR);clear GR v0 v1 v2 v3 vf;obtain⟨z0,z1,z2,z3,z4,zf⟩:=(za7 Gf.out Kl.out gK.out).all;go_wp2
         try rw[Exit.noGoto_ret]
         refine bodyPost_ret (v:=.tuple #[nM,.int .i64 6]) (by simp[results,results7,go_sem,z0,z1,z2,z3,z4]) rfl ?_;rw[Gd.out];exact⟨rfl,zaE (zbr Gf.out gC.out gK.out) zab _ _ _ _ _⟩
        | some m'=>
         rw[hh] at hH Hh;have HH:=zaa hH;have Ke:=zaa Hh;have Vk:=zaa (zmi hh);clear hH hh Hh Gg KT;go_wp2_with fail
         (with_reducible refine HH.out.mono ?_)
         rintro e w5 ⟨rfl,GR,qw⟩;have J5:=zaa (GO.out.next (s':=⟨m',112,sb⟩) gK.out GR qw gU.out gN.out Ke.out (fun _=>Vk.out.2.trans (GO.out.id0 (by show sl < 115;omega))) (by simp) (by show m'.body.length≤_;rw[Vk.out.1];exact zhd GO.out.len) (by omega));clear GR qw v0 v1 v2 v3 vf;go_wp2_with fail;go_roundw
         case rel=>exact⟨k+fn,_,by rw[show cd=112 by have:=QO.out;omega],rfl,by first | rfl | go_num,J5.out⟩
         case measure=>simp[RowKit.intOf];omega
       ·have s112:((cd:Int)==112)=false:=by rw[zac];omega
        have s115:((cd:Int)==115)=false:=by rw[zac];omega
        have s117:((cd:Int)==117)=false:=by rw[zac];omega
        have s118:((cd:Int)==118)=false:=by rw[zac];omega
        have s119:((cd:Int)==119)=false:=by rw[zac];omega
        obtain⟨x0,x1,x2,x3,xf⟩:=YA.out.all;by_cases hx:xk=23
        ·have e23:((xk:Int)==23)=true:=by rw[beq_iff_eq];omega
         have Ke:Hid (za5 ⟨sm,sl,sb⟩ (.mk vk vn vt vks)=some ⟨sm,113,sb⟩):=zaa (by rw[Hh,if_neg (by decide),if_neg (by decide),if_neg (by decide),if_neg (by decide)];exact if_pos hx);have J5:=zaa (GO.out.next (s':=⟨sm,113,sb⟩) gK.out (Off.refl _ _) GO.out.msg gU.out gN.out Ke.out (fun _=>GO.out.id0 (by show sl < 115;omega)) (by simp) (zhd GO.out.len) (by omega));clear Hh Gg KT hx;go_wp2_with fail;go_roundw
         case rel=>exact⟨k+fn,_,by rw[show cd=113 by have:=QO.out;omega],rfl,by first | rfl | go_num,J5.out⟩
         case measure=>simp[RowKit.intOf];omega
        ·have e23:((xk:Int)==23)=false:=by rw[zac];omega
         have Gd:Hid (getM b=none):=zaa (GO.out.bad gU.out gN.out (.inr (by rw[Hh,if_neg (by decide),if_neg (by decide),if_neg (by decide),if_neg (by decide)];exact if_neg hx)));clear Hh Gg KT hx;obtain⟨z0,z1,z2,z3,z4,zf⟩:=(za7 Gf.out Kl.out gK.out).all;go_wp2
         try rw[Exit.noGoto_ret]
         refine bodyPost_ret (v:=.tuple #[nM,.int .i64 6]) (by simp[results,results7,go_sem,z0,z1,z2,z3,z4]) rfl ?_;rw[Gd.out];exact⟨rfl,zaE (zbr Gf.out gC.out gK.out) zab _ _ _ _ _⟩
       ·have s112:((cd:Int)==112)=false:=by rw[zac];omega
        have s115:((cd:Int)==115)=false:=by rw[zac];omega
        have s117:((cd:Int)==117)=false:=by rw[zac];omega
        have s118:((cd:Int)==118)=false:=by rw[zac];omega
        have s119:((cd:Int)==119)=false:=by rw[zac];omega
        obtain⟨x0,x1,x2,x3,xf⟩:=YA.out.all;by_cases hx:xk=23
        ·have e23:((xk:Int)==23)=true:=by rw[beq_iff_eq];omega
         have Ke:Hid (za5 ⟨sm,sl,sb⟩ (.mk vk vn vt vks)=some ⟨sm,114,sb⟩):=zaa (by rw[Hh,if_neg (by decide),if_neg (by decide),if_neg (by decide),if_neg (by decide)];exact if_pos hx);have J5:=zaa (GO.out.next (s':=⟨sm,114,sb⟩) gK.out (Off.refl _ _) GO.out.msg gU.out gN.out Ke.out (fun _=>GO.out.id0 (by show sl < 115;omega)) (by simp) (zhd GO.out.len) (by omega));clear Hh Gg KT hx;go_wp2_with fail;go_roundw
         case rel=>exact⟨k+fn,_,by rw[show cd=114 by have:=QO.out;omega],rfl,by first | rfl | go_num,J5.out⟩
         case measure=>simp[RowKit.intOf];omega
        ·have e23:((xk:Int)==23)=false:=by rw[zac];omega
         have Gd:Hid (getM b=none):=zaa (GO.out.bad gU.out gN.out (.inr (by rw[Hh,if_neg (by decide),if_neg (by decide),if_neg (by decide),if_neg (by decide)];exact if_neg hx)));clear Hh Gg KT hx;obtain⟨z0,z1,z2,z3,z4,zf⟩:=(za7 Gf.out Kl.out gK.out).all;go_wp2
         try rw[Exit.noGoto_ret]
         refine bodyPost_ret (v:=.tuple #[nM,.int .i64 6]) (by simp[results,results7,go_sem,z0,z1,z2,z3,z4]) rfl ?_;rw[Gd.out];exact⟨rfl,zaE (zbr Gf.out gC.out gK.out) zab _ _ _ _ _⟩
       ·have s112:((cd:Int)==112)=false:=by rw[zac];omega
        have s115:((cd:Int)==115)=true:=by rw[beq_iff_eq];omega
        have s117:((cd:Int)==117)=false:=by rw[zac];omega
        have s118:((cd:Int)==118)=false:=by rw[zac];omega
        have s119:((cd:Int)==119)=false:=by rw[zac];omega
        have hH:=zqY vk vn vt vks vA vl vc (w.heap.size+1) W.heap.size sm _ KC.out xE.out Xx.out (GO.out.id0 (by show sl < 115;omega)) GO.out.msg;obtain⟨v0,v1,v2,v3,vf⟩:=Uv.out.all;cases hh:zc3 (.mk vk vn vt vks) sm with
        | none=>
         rw[hh] at hH Hh;have HH:=zaa hH;have Gd:Hid (getM b=none):=zaa (GO.out.bad gU.out gN.out (.inr Hh));clear hH hh Hh Gg KT;go_wp2_with fail
         (with_reducible refine HH.out.mono ?_)
         rintro e w5 ⟨rfl,GR⟩;have Gf:=zaa (Gf.out.trans GR);clear GR v0 v1 v2 v3 vf;obtain⟨z0,z1,z2,z3,z4,zf⟩:=(za7 Gf.out Kl.out gK.out).all;go_wp2
         try rw[Exit.noGoto_ret]
         refine bodyPost_ret (v:=.tuple #[nM,.int .i64 6]) (by simp[results,results7,go_sem,z0,z1,z2,z3,z4]) rfl ?_;rw[Gd.out];exact⟨rfl,zaE (zbr Gf.out gC.out gK.out) zab _ _ _ _ _⟩
        | some m'=>
         rw[hh] at hH Hh;have HH:=zaa hH;have Ke:=zaa Hh;have Vk:=zaa (zmj hh);clear hH hh Hh Gg KT;go_wp2_with fail
         (with_reducible refine HH.out.mono ?_)
         rintro e w5 ⟨rfl,GR,qw⟩;have J5:=zaa (GO.out.next (s':=⟨m',115,sb⟩) gK.out GR qw gU.out gN.out Ke.out (fun h=>by simp at h) (by simp) (by show m'.body.length≤_;rw[Vk.out.1];exact zhd GO.out.len) (by omega));clear GR qw v0 v1 v2 v3 vf;go_wp2_with fail;go_roundw
         case rel=>exact⟨k+fn,_,by rw[show cd=115 by have:=QO.out;omega],rfl,by first | rfl | go_num,J5.out⟩
         case measure=>simp[RowKit.intOf];omega
       ·have s112:((cd:Int)==112)=false:=by rw[zac];omega
        have s115:((cd:Int)==115)=false:=by rw[zac];omega
        have s117:((cd:Int)==117)=false:=by rw[zac];omega
        have s118:((cd:Int)==118)=false:=by rw[zac];omega
        have s119:((cd:Int)==119)=false:=by rw[zac];omega
        obtain⟨x0,x1,x2,x3,xf⟩:=YA.out.all;by_cases hx:xk=23
        ·have e23:((xk:Int)==23)=true:=by rw[beq_iff_eq];omega
         have Ke:Hid (za5 ⟨sm,sl,sb⟩ (.mk vk vn vt vks)=some ⟨sm,116,sb⟩):=zaa (by rw[Hh,if_neg (by decide),if_neg (by decide),if_neg (by decide),if_neg (by decide)];exact if_pos hx);have J5:=zaa (GO.out.next (s':=⟨sm,116,sb⟩) gK.out (Off.refl _ _) GO.out.msg gU.out gN.out Ke.out (fun h=>by simp at h) (by simp) (zhd GO.out.len) (by omega));clear Hh Gg KT hx;go_wp2_with fail;go_roundw
         case rel=>exact⟨k+fn,_,by rw[show cd=116 by have:=QO.out;omega],rfl,by first | rfl | go_num,J5.out⟩
         case measure=>simp[RowKit.intOf];omega
        ·have e23:((xk:Int)==23)=false:=by rw[zac];omega
         have Gd:Hid (getM b=none):=zaa (GO.out.bad gU.out gN.out (.inr (by rw[Hh,if_neg (by decide),if_neg (by decide),if_neg (by decide),if_neg (by decide)];exact if_neg hx)));clear Hh Gg KT hx;obtain⟨z0,z1,z2,z3,z4,zf⟩:=(za7 Gf.out Kl.out gK.out).all;go_wp2
         try rw[Exit.noGoto_ret]
         refine bodyPost_ret (v:=.tuple #[nM,.int .i64 6]) (by simp[results,results7,go_sem,z0,z1,z2,z3,z4]) rfl ?_;rw[Gd.out];exact⟨rfl,zaE (zbr Gf.out gC.out gK.out) zab _ _ _ _ _⟩
       ·have s112:((cd:Int)==112)=false:=by rw[zac];omega
        have s115:((cd:Int)==115)=false:=by rw[zac];omega
        have s117:((cd:Int)==117)=true:=by rw[beq_iff_eq];omega
        have s118:((cd:Int)==118)=false:=by rw[zac];omega
        have s119:((cd:Int)==119)=false:=by rw[zac];omega
        obtain⟨x0,x1,x2,x3,xf⟩:=YA.out.all;obtain⟨Gp,GP,Ag,ng,cg,Hz,Hf⟩:=GO.out.msg;obtain⟨y0,y1,y2,y3,y4,yf⟩:=Hz.all;simp only at y0 y1 y2 y3 y4;have QW:sm.body.length=ng:=Hf.len;have HO:=zaa Hf;have xJ:=zaa Hz;have HM:=zaa (And.intro Gp GP);have XL:Hid (ng≤k * 16777216):=zaa (by have:=GO.out.len;simp only at this;omega);have jT:=zaa QW;clear Hf Hz Gp GP QW;by_cases hx:xk=19
        ·have e19:((xk:Int)==19)=true:=by rw[beq_iff_eq];omega
         have Ke:Hid (za5 ⟨sm,sl,sb⟩ (.mk vk vn vt vks)=some ⟨{ sm with body:=sm.body++tb xt },117,true⟩):=zaa (by rw[Hh,if_neg (by decide),if_neg (by decide),if_pos rfl];exact if_pos hx);clear Hh Gg KT hx;go_wp2_with (first
          | (at_builtin;refine zbC (base:=W.heap.size) (t:=xt) rfl _ _ rfl rfl HO.out rfl (by have:=XL.out;have:=qH.out;have:=HN.out;omega) HM.out.2 ?_;intro A5 c5 w5 VJ j4;have gp:=(Below.refl W.heap.size _).grown j4 HM.out.2 (fun k hk=>(HO.out.blk k hk).1);have Qt:BxM w5 (w.heap.size+1) _ _ _ _ _:=(gp.block (w.heap.size+1) HM.out.1).trans xJ.out;obtain⟨u0,u1,u2,u3,u4,uf⟩:=Qt.all;have GR:=(zeS (g:=w.heap.size+1) gp).trans (Off.set w5 4 (.slice A5 (ng+xt.size) c5) (.inl rfl)))
          | fail)
         have bh:=MG.set4 HM.out.1 (ydl HM.out.2 gp.size) Qt VJ;have J5:=zaa (GO.out.next (s':=⟨{ sm with body:=sm.body++tb xt },117,true⟩) gK.out GR bh gU.out gN.out Ke.out (fun h=>by simp at h) (by simp) (by have:=jT.out;have:=XL.out;have:=qH.out;simp only[ydj,zov];omega) (by omega));go_roundw
         case rel=>exact⟨k+fn,_,by rw[show cd=117 by have:=QO.out;omega],rfl,by first | rfl | go_num,J5.out⟩
         case measure=>simp[RowKit.intOf];omega
        ·have e19:((xk:Int)==19)=false:=by rw[zac];omega
         have Gd:Hid (getM b=none):=zaa (GO.out.bad gU.out gN.out (.inr (by rw[Hh,if_neg (by decide),if_neg (by decide),if_pos rfl];exact if_neg hx)));clear Hh Gg KT hx;go_wp2_with (first
          | (at_builtin;refine zbC (base:=W.heap.size) (t:=xt) rfl _ _ rfl rfl HO.out rfl (by have:=XL.out;have:=qH.out;have:=HN.out;omega) HM.out.2 ?_;intro A5 c5 w5 VJ j4;have gp:=(Below.refl W.heap.size _).grown j4 HM.out.2 (fun k hk=>(HO.out.blk k hk).1);have Qt:BxM w5 (w.heap.size+1) _ _ _ _ _:=(gp.block (w.heap.size+1) HM.out.1).trans xJ.out;obtain⟨u0,u1,u2,u3,u4,uf⟩:=Qt.all;have GR:=(zeS (g:=w.heap.size+1) gp).trans (Off.set w5 4 (.slice A5 (ng+xt.size) c5) (.inl rfl));have vJ:=zaa (Gf.out.trans GR);obtain⟨z0,z1,z2,z3,z4,zf⟩:=(za7 vJ.out Kl.out gK.out).all)
          | fail)
         try rw[Exit.noGoto_ret]
         refine bodyPost_ret (v:=.tuple #[nM,.int .i64 6]) (by simp[results,results7,go_sem,z0,z1,z2,z3,z4]) rfl ?_;rw[Gd.out];exact⟨rfl,zaE (zbr vJ.out gC.out gK.out) zab _ _ _ _ _⟩
       ·have s112:((cd:Int)==112)=false:=by rw[zac];omega
        have s115:((cd:Int)==115)=false:=by rw[zac];omega
        have s117:((cd:Int)==117)=false:=by rw[zac];omega
        have s118:((cd:Int)==118)=true:=by rw[beq_iff_eq];omega
        have s119:((cd:Int)==119)=false:=by rw[zac];omega
        have Gd:Hid (getM b=none):=zaa (GO.out.bad gU.out gN.out (.inr (zj7 KI.out (by decide))));clear Hh Gg KT;obtain⟨z0,z1,z2,z3,z4,zf⟩:=(za7 Gf.out Kl.out gK.out).all;go_wp2
        try rw[Exit.noGoto_ret]
        refine bodyPost_ret (v:=.tuple #[nM,.int .i64 6]) (by simp[results,results7,go_sem,z0,z1,z2,z3,z4]) rfl ?_;rw[Gd.out];exact⟨rfl,zaE (zbr Gf.out gC.out gK.out) zab _ _ _ _ _⟩
       ·have s112:((cd:Int)==112)=false:=by rw[zac];omega
        have s115:((cd:Int)==115)=false:=by rw[zac];omega
        have s117:((cd:Int)==117)=false:=by rw[zac];omega
        have s118:((cd:Int)==118)=false:=by rw[zac];omega
        have s119:((cd:Int)==119)=true:=by rw[beq_iff_eq];omega
        have Gd:Hid (getM b=none):=zaa (GO.out.bad gU.out gN.out (.inr (zj7 KI.out (by decide))));clear Hh Gg KT;obtain⟨z0,z1,z2,z3,z4,zf⟩:=(za7 Gf.out Kl.out gK.out).all;go_wp2
        try rw[Exit.noGoto_ret]
        refine bodyPost_ret (v:=.tuple #[nM,.int .i64 6]) (by simp[results,results7,go_sem,z0,z1,z2,z3,z4]) rfl ?_;rw[Gd.out];exact⟨rfl,zaE (zbr Gf.out gC.out gK.out) zab _ _ _ _ _⟩
       ·have s112:((cd:Int)==112)=false:=by rw[zac];omega
        have s115:((cd:Int)==115)=false:=by rw[zac];omega
        have s117:((cd:Int)==117)=false:=by rw[zac];omega
        have s118:((cd:Int)==118)=false:=by rw[zac];omega
        have s119:((cd:Int)==119)=false:=by rw[zac];omega
        obtain⟨x0,x1,x2,x3,xf⟩:=YA.out.all;by_cases hx:xk=23
        ·have e23:((xk:Int)==23)=true:=by rw[beq_iff_eq];omega
         have Ke:Hid (za5 ⟨sm,sl,sb⟩ (.mk vk vn vt vks)=some ⟨sm,120,sb⟩):=zaa (by rw[Hh,if_neg (by decide),if_neg (by decide),if_neg (by decide),if_neg (by decide)];exact if_pos hx);have J5:=zaa (GO.out.next (s':=⟨sm,120,sb⟩) gK.out (Off.refl _ _) GO.out.msg gU.out gN.out Ke.out (fun h=>by simp at h) (by simp) (zhd GO.out.len) (by omega));clear Hh Gg KT hx;go_wp2_with fail;go_roundw
         case rel=>exact⟨k+fn,_,by rw[show cd=120 by have:=QO.out;omega],rfl,by first | rfl | go_num,J5.out⟩
         case measure=>simp[RowKit.intOf];omega
        ·have e23:((xk:Int)==23)=false:=by rw[zac];omega
         have Gd:Hid (getM b=none):=zaa (GO.out.bad gU.out gN.out (.inr (by rw[Hh,if_neg (by decide),if_neg (by decide),if_neg (by decide),if_neg (by decide)];exact if_neg hx)));clear Hh Gg KT hx;obtain⟨z0,z1,z2,z3,z4,zf⟩:=(za7 Gf.out Kl.out gK.out).all;go_wp2
         try rw[Exit.noGoto_ret]
         refine bodyPost_ret (v:=.tuple #[nM,.int .i64 6]) (by simp[results,results7,go_sem,z0,z1,z2,z3,z4]) rfl ?_;rw[Gd.out];exact⟨rfl,zaE (zbr Gf.out gC.out gK.out) zab _ _ _ _ _⟩
end Me
end Go.Proofs.YtbbbanfggcediaaGreatDoor
