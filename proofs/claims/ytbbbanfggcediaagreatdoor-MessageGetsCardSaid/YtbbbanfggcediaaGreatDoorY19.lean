/- Contracts, each with its premises. -/
import Derived.Test.YtbbbanfggcediaaGreatDoorY10
import Derived.Test.YtbbbanfggcediaaGreatDoorY14
import Derived.Test.YtbbbanfggcediaaGreatDoorY18
set_option maxRecDepth 100000
set_option maxHeartbeats 8000000
namespace Go.Proofs.YtbbbanfggcediaaGreatDoor
open _root_.Go.Proofs.Tryz
open Prod renaming mk.injEq→ycn
open Nat renaming le_trans→ycl,add_assoc→ycr,zero_add→ycs
open Bool renaming and_eq_true→yci,false_ne_true→yco
open List renaming length_append→ych,length_cons→ycj,length_drop→yck,take_of_length_le→ycm,length_take→ycp,append_assoc→ycq,cons_append→yct,nil_append→ycu
namespace Dec
open Val V Utf Enc
theorem zo (a:Nat)(l:Lz):Dec.nb (a::l)=a * 256 ^ l.length+Dec.nb l:=by
 have h:∀ (l:Lz) (x:Nat),l.foldl (fun x o=>x * 256+o) x=x * 256 ^ l.length+Dec.nb l:=by
  intro l
  induction l with
  | nil=>intro x;simp[Dec.nb]
  | cons c l ih=>
   intro x;simp only[Dec.nb,List.foldl_cons,ycj] at ih ⊢;rw[ih,ih (0 * 256+c),Nat.zero_mul,ycs,Nat.pow_succ,Nat.add_mul,Nat.mul_assoc,Nat.mul_comm 256];omega
 have:=h l a;simp only[Dec.nb,List.foldl_cons] at this ⊢;rw[Nat.zero_mul,ycs];exact this
theorem zt5 (X:Nat):∀ k,Dec.nb (be X k)=X % 256 ^ k
 | 0=>by simp[be,Dec.nb,Nat.mod_one]
 | k+1=>by
  rw[be,zo,zt5 X k,zaF,Nat.mod_pow_succ,Nat.mul_comm];omega
theorem zqy (X k:Nat)(h:k≤8):tn (be X k)=X % 256 ^ k:=by
 unfold tn;rw[zaF,if_pos h,zt5]
theorem zvb (t:ByteArray):sb (tb t)=t:=by
 obtain⟨a⟩:=t;simp only[sb,tb,List.map_map]
 congr 1
 have:(a.toList.map (UInt8.ofNat ∘ UInt8.toNat))=a.toList:=by
  conv=>rhs;rw[←List.map_id a.toList]
  apply List.map_congr_left
  intro x _;simp
 rw[this]
theorem zl1:((List.range 25).all fun k=>(chs k).all fun x=>decide (kof x.1=k)&&decide (x.1 < 256)&&(decide (19≤k)||decide (sw x.1=0∧lg x.1=wid x.1))&&(decide (k < 19)||decide (sw x.1=wid x.1∧lg x.1=0))&&decide (wid x.1≤16)&&(decide (15≤k)||decide (wid x.1≤8)))=true:=by decide +kernel
theorem ze9 {k c:Nat}{f:Enc.Can}(hk:k≤24)(h:(c,f)∈chs k):kof c=k∧c < 256∧(k < 19→sw c=0∧lg c=wid c)∧(19≤k→sw c=wid c∧lg c=0)∧(k < 15→wid c≤8):=by
 have h1:=List.all_eq_true.1 zl1 k (by simp;omega);have h2:=List.all_eq_true.1 h1 (c,f) h;simp only[yci,Bool.or_eq_true,decide_eq_true_eq] at h2;obtain⟨⟨⟨⟨⟨a1,a2⟩,a3⟩,a4⟩,a5⟩,a6⟩:=h2;exact⟨a1,a2,fun h=>a3.resolve_left (by omega),fun h=>a4.resolve_left (by omega),fun h=>a6.resolve_left (by omega)⟩
theorem zk1 {k c n:Nat}{f:Enc.Can}(hk:1≤k∧k≤14)(h:(c,f)∈chs k)(h1:k=1→n=0)(hf:2≤k→canN f n)(hn:2≤k→numB k n=true)(h6:n < 18446744073709551616):zag c (be n (wid c))=.mk k n ⟨#[]⟩ []:=by
 have:k=1∨k=2∨k=3∨k=4∨k=5∨k=6∨k=7∨k=8∨k=9∨k=10∨k=11∨k=12∨k=13∨k=14:=by omega
 have hw:=(ze9 (by omega) h).2.2.2.2 (by omega);have ht:=zqy n (wid c) hw;have hl:=zaF n (wid c);generalize hd:be n (wid c)=d at ht hl;rcases this with rfl | rfl | rfl | rfl | rfl | rfl | rfl | rfl | rfl | rfl | rfl | rfl | rfl | rfl<;>
  simp only[chs,List.mem_cons,ycn,List.not_mem_nil,or_false] at h<;>
  (repeat' (refine Or.elim h (fun h=>?_) (fun h=>?_)))<;>
  (obtain⟨rfl,rfl⟩:=h)<;>
  (simp[wid] at ht hl)<;>
  (simp[zag,kof,kof2,ht,hl,sgw])<;>
  (simp[canN,numB,sgB,isC] at h1 hf hn)<;>
  (try (have hs:=zhJ hf h6)) <;> 
  (try omega)<;>(try (split<;>omega))<;>(try (rw[hf];rfl))
theorem zi7 {k n:Nat}{t:ByteArray}{ks:List V}(h:mayB (.mk k n t ks)=true)(hn:zb0 k=true):(k=6∨k=21)∧ks=[]:=by
 have hk:k=6∨k=21:=by simpa [zb0] using hn
 refine⟨hk,?_⟩;rcases hk with rfl | rfl
 ·exact(zrn (by omega) h).2.1
 ·exact(znK (by omega) h).2.1
theorem zc0 (N:Nat):∀ v:V,bulk v≤N→mayB v=true→(∀ x∈called v,mayB x=true∧zb0 x.kind=true)∧items v=items (core v)+2 * (called v).length∧(called v).length+depth (core v)≤depth v∧zap (called v) (core v)=v:=by
 induction N with
 | zero=>intro v hN;have:=zbz v;omega
 | succ N ih=>
  intro v hN h;obtain⟨k,n,t,ks⟩:=v;by_cases hk:k=25
  ·subst hk;obtain⟨rfl,rfl⟩:=zlU h;obtain⟨x,y,rfl,GJ,hx,hy⟩:=zaS h;obtain⟨i1,i2,i3,i4⟩:=ih y (by simp only[bulk,zai] at hN;omega) hy;have hxi:items x=1∧depth x=1:=by
    obtain⟨xk,xn,xt,xs⟩:=x;obtain⟨_,rfl⟩:=zi7 hx GJ;simp[items,zah,depth,zas]
   rw[zbO,zcn];refine⟨fun z hz=>?_,?_,?_,?_⟩
   ·rcases List.mem_cons.1 hz with rfl | hz
    ·exact⟨hx,GJ⟩
    ·exact i1 z hz
   ·simp only[items,zah,ycj,hxi.1];omega
   ·simp only[depth,zas,ycj,hxi.2];omega
   ·rw[zap,i4]
  ·rw[zb9 hk,zcD hk];exact⟨fun x hx=>(by cases hx),by simp,by simp,rfl⟩
theorem zfk {v:V}(h:mayB v=true):zap (called v) (core v)=v:=(zc0 _ v zab h).2.2.2
theorem zfl {v:V}(h:mayB v=true):items v=items (core v)+2 * (called v).length:=(zc0 _ v zab h).2.1
theorem zdt {v:V}(h:mayB v=true):(called v).length+depth (core v)≤depth v:=(zc0 _ v zab h).2.2.1
theorem zhN {c:Nat}{d X:Lz}(h0:sw c=0)(h:lg c=d.length):zaC c (d++X)=some (d,X):=by
 unfold zaC;rw[if_pos h0,h,if_pos (by simp)];simp
theorem zk2 {c:Nat}{d X:Lz}(h0:sw c≠0)(h4:sw c≤8)(h:d.length < 256 ^ sw c):zaC c (be d.length (sw c)++d++X)=some (d,X):=by
 unfold zaC;have hl:=zaF d.length (sw c);have ht:(be d.length (sw c)++d++X).take (sw c)=be d.length (sw c):=by rw[ycq,List.take_append_of_le_length (by omega),ycm (by omega)]
 have hd:(be d.length (sw c)++d++X).drop (sw c)=d++X:=by rw[ycq,List.drop_append_of_le_length (by omega),List.drop_of_length_le (by omega),ycu]
 rw[if_neg h0,if_pos (by simp only[ych];omega),ht,hd,zqy _ _ h4,Nat.mod_eq_of_lt h,if_pos (by simp)];simp
theorem zoa (k n:Nat)(t:ByteArray)(ks:List V):can .short (rawv (.mk k n t ks))=decide (t.size≤255):=rfl
theorem zqz (k n:Nat)(t:ByteArray)(ks:List V):can .none_ (rawv (.mk k n t ks))=decide (ks.length=0):=rfl
theorem zob (k n:Nat)(t:ByteArray)(ks:List V):can .small (rawv (.mk k n t ks))=(decide (1+zaV (kp k ks)≤255)&&decide (ks.length≤255)):=rfl
theorem zi8 {k n c:Nat}{f:Enc.Can}{t:ByteArray}{ks:List V}(hg:Enc.Good (.mk k n t ks))(hk:1≤k∧k≤21)(h:(c,f)∈chs k)(hc:can f (rawv (.mk k n t ks))=true) :
  ∃ D,(∀ X,zaC c (dat c (.mk k n t ks)++X)=some (D,X))∧zag c D=.mk k n t ks:=by
 obtain⟨hm,h6,hb⟩:=hg;obtain⟨J9,_,gM,gY,Yf⟩:=ze9 (by omega) h;have hn6:n < 18446744073709551616:=h6.1;by_cases JW:k < 15
 ·obtain⟨h0,Y5⟩:=gM (by omega);have jY:dat c (.mk k n t ks)=be n (wid c):=by
   simp only[dat,dlay];by_cases hw:wid c=0
   ·rw[if_pos hw,hw];rfl
   ·rw[if_neg hw,if_pos JW]
  refine⟨be n (wid c),fun X=>by rw[jY];exact zhN h0 (by rw[zaF];exact Y5),?_⟩;by_cases h1:k=1
  ·subst h1;obtain⟨rfl,rfl,rfl⟩:=alone1 hm;exact zk1 (by omega) h (fun _=>rfl) (fun h=>absurd h (by omega)) (fun h=>absurd h (by omega)) hn6
  ·obtain⟨rfl,rfl,K7⟩:=zrn (by omega) hm;exact zk1 (by omega) h (fun e=>absurd e h1) (fun _=>zsx (by omega) h hc) (fun _=>K7) hn6
 ·obtain⟨rfl,rfl,htx⟩:=znK (by omega) hm;have Ji:zag c (tb t)=.mk k 0 t []:=by
   unfold zag;rw[J9,if_neg (by omega),if_neg (by omega),if_neg (by omega),if_pos (by omega),zvb]
  by_cases U9:k < 19
  ·obtain⟨h0,Y5⟩:=gM U9;have CF:=zkP (by omega) h htx;have US:wid c≠0:=znL (by omega) h;have jY:dat c (.mk k 0 t [])=tb t:=by simp only[dat,dlay];rw[if_neg US,if_neg JW,if_pos U9]
   exact⟨tb t,fun X=>by rw[jY];exact zhN h0 (by rw[zbK,CF];exact Y5),Ji⟩
  ·obtain⟨kZ,_⟩:=gY (by omega);have JR:=znM (by omega) h;have US:wid c≠0:=by rcases JR with ⟨e,_⟩ | ⟨e,_⟩<;>omega
   have jY:dat c (.mk k 0 t [])=be (tb t).length (sw c)++tb t:=by simp only[dat,dlay];rw[if_neg US,if_neg JW,if_neg U9,if_pos (by omega),zbK,kZ]
   have Hu:(tb t).length < 256 ^ sw c:=by
    rw[zbK,kZ];rcases JR with ⟨e,rfl⟩ | ⟨e,rfl⟩
    ·rw[e];have gY:=of_decide_eq_true ((zoa k 0 t []).symm.trans hc);omega
    ·rw[e];simp only[bulk,zai] at hb;omega
   exact⟨tb t,fun X=>by rw[jY];exact zk2 (by omega) (by rcases JR with ⟨e,_⟩ | ⟨e,_⟩<;>omega) Hu,Ji⟩
theorem zoc {x:V}(hg:Enc.Good x)(hn:zb0 x.kind=true)(Z:Lz):za8 (lay (plan x)++Z)=.ok (x,Z):=by
 obtain⟨k,n,t,ks⟩:=x;obtain⟨hk,rfl⟩:=zi7 hg.1 hn;obtain⟨f,hf,gm⟩:=zfC (k:=k) (by omega) (by omega) [rawv (.mk k n t [])];simp only[List.all_cons,List.all_nil,Bool.and_true] at gm;obtain⟨D,h1,h2⟩:=zi8 hg (by omega) hf gm;rw[zqb (by omega)];generalize pick (chs k) [rawv (.mk k n t [])]=c at hf gm h1 h2;have qQ:=(ze9 (by omega) hf).1;simp only[yct,za8];rw[if_pos (by rw[qQ];exact hk),h1 Z];simp only;rw[h2]
theorem zg0:∀ (l:List V) (N:Nat) (Y:Lz) (c:Nat),zgA l→(∀ x∈l,zb0 x.kind=true)→c≠0→kof c≠0→(layN (zar l)++c::Y).length < N→zaL N (layN (zar l)++c::Y)=.ok (l,c,Y)
 | [],0,_,_,_,_,_,_,h=>absurd h (Nat.not_lt_zero _)
 | [],N+1,Y,c,_,_,h0,hk,_=>by
  simp only[zar,layN,ycu];rw[zaL,if_neg h0,if_neg hk]
 | x::l,0,_,_,_,_,_,_,h=>absurd h (Nat.not_lt_zero _)
 | x::l,N+1,Y,c,hg,hn,h0,hk,h=>by
  obtain⟨hgx,Kz⟩:=hg.cons;simp only[zar,layN,yct,ycq,ycj,ych] at h ⊢;have hxp:0 < (lay (plan x)).length∨True:=.inr trivial;rw[zaL,if_pos rfl,zoc hgx (hn x (by simp))];simp only;rw[zg0 l N Y c Kz (fun y hy=>hn y (by simp[hy])) h0 hk (by simp only[ych,ycj];omega)]
theorem zi9 {v:V}(hg:Enc.Good v){c:Nat}(h0:c≠0)(hk:kof c≠0)(Y:Lz):headD (layN (zar (called v))++c::Y)=.ok (called v,c,Y):=
 zg0 _ _ _ _ hg.called (fun x hx=>((zc0 _ v zab hg.1).1 x hx).2) h0 hk (Nat.lt_succ_self _)
def zod (N:Nat):Prop:=∀ (c:Nat) (f:Enc.Can) (v:V),bulk v≤N→Enc.Good v→depth v≤16→v.kind≠25→(c,f)∈chs v.kind→can f (rawv v)=true →
 ∃ D,(∀ X,zaC c (dat c v++X)=some (D,X))∧∀ (F it:Nat) (ns:List V),D.length < F→it+items v+2 * ns.length≤1024→zaG F it ns c D=some (zap ns v,it+items v+2 * ns.length)
def zqA (N:Nat):Prop:=∀ (v:V) (X:Lz) (F it:Nat),bulk v≤N→Enc.Good v→depth v≤16→(lay (plan v)).length≤F→it+items v≤1024→valD (zaG F) it (lay (plan v)++X)=.ok (v,it+items v,X)
theorem zoe {v:V}(hm:mayB v=true):∃ f,(kcode [v],f)∈chs (core v).kind∧can f (rawv (core v))=true∧kcode [v]≠0∧kof (kcode [v])≠0∧(core v).kind≤24:=by
 have Kc:=zcN v hm;obtain⟨f,hf,gm⟩:=zfC Kc.1 Kc.2 [rawv (core v)];rw[←ziZ hm] at hf;simp only[List.all_cons,List.all_nil,Bool.and_true] at gm;have h1:=(ze9 Kc.2 hf).1;have h2:kof (kcode [v])≠0:=by rw[h1];omega
 exact⟨f,hf,gm,fun e=>h2 (by rw[e];rfl),h2,Kc.2⟩
theorem zl2 {N:Nat}(h:zod N):zqA N:=by
 intro v X F it hN hg hd hF Gx;obtain⟨f,hf,hc,h0,hk,_⟩:=zoe hg.1;have Jf:=zdq v hg.1;have bp:=zfl hg.1;have km:=zdt hg.1;obtain⟨D,h1,h2⟩:=h (kcode [v]) f (core v) (by omega) hg.core (by omega) (zd2 v hg.1) hf hc;have Jc:=za4 (h1 []);rw[znO hg.1,List.append_nil] at *;simp only[ych,ycj] at hF;rw[ycq,yct];unfold valD;rw[zi9 hg h0 hk];simp only;rw[h1 X];simp only;have hcp:=zec (core v);rw[ycm (by omega),h2 F it (called v) (by simp at Jc;omega) (by omega),zfk hg.1,bp];simp only[ycr]
theorem zj {N F:Nat}(h:zqA N):∀ (l:List V) (it:Nat),zai l≤N→zgA l→zas l≤16→(layK (zar l)).length≤F→it+zah l≤1024→zbe (zcg (zaG F)) l.length it (layK (zar l))=some (l,it+zah l,[])
 | [],it,_,_,_,_,_=>by simp[zar,layK,zbe,zah]
 | v::l,it,hN,hg,hd,hF,Gx=>by
  obtain⟨Qq,Kz⟩:=hg.cons;simp only[zai] at hN;simp only[zas] at hd;simp only[zar,layK,ych] at hF ⊢;simp only[zah] at Gx ⊢;rw[ycj,zbe,zhn,h v _ F it (by omega) Qq (by omega) (by omega) (by omega)];simp only;rw[zj h l (it+items v) (by omega) Kz (by omega) (by omega) (by omega)];simp only[ycr]
theorem zg1 {N F c k:Nat}{f:Enc.Can}{ns:List V}(h:zod N)(JZ:(c,f)∈chs k):∀ (l:List V) (it:Nat),zai l≤N→zgA l→zas l≤16→(∀ e∈l,(core e).kind=k∧can f (plan e)=true∧called e=ns)→(datL c l).length < F→it+zah l≤1024→zbe (zch (zaG F) ns c) l.length it (datL c l)=some (l,it+zah l,[])
 | [],it,_,_,_,_,_,_=>by simp[datL,zbe,zah]
 | v::l,it,hN,hg,hd,he,hF,Gx=>by
  obtain⟨Qq,Kz⟩:=hg.cons;obtain⟨e1,e2,e3⟩:=he v (by simp);simp only[zai] at hN;simp only[zas] at hd;simp only[datL,ych] at hF ⊢;simp only[zah] at Gx ⊢;have Jf:=zdq v Qq.1;have bp:=zfl Qq.1;have km:=zdt Qq.1;obtain⟨D,h1,h2⟩:=h c f (core v) (by omega) Qq.core (by omega) (zd2 v Qq.1) (by rw[e1];exact JZ) (by rw[←zkN f v Qq.1];exact e2);have Jc:=za4 (h1 []);rw[List.append_nil] at Jc;have hw:zap ns (core v)=v:=by rw[←e3];exact zfk Qq.1
  rw[e3] at bp;have gr:zch (zaG F) ns c it (dat c (core v)++datL c l)=some (v,it+items v,datL c l):=by
   unfold zch;rw[h1];simp only;rw[h2 F it ns (by simp at Jc;omega) (by omega),hw,bp];simp only[ycr]
  rw[ycj,zbe,gr];simp only;rw[zg1 h JZ l (it+items v) (by omega) Kz (by omega) (fun e hx=>he e (by simp[hx])) (by omega) (by omega)];simp only[ycr]
theorem zdQ {tl:Nat→List V→Nat→Lz→Option (V×Nat)}{c it it' n w:Nat}{L:Lz}{vs:List V}(hw:sw c=w)(h8:w≤8)(hn:n < 256 ^ w)(Gm:n≤1024)(hk:kof c≠24)(hl:zbe (zcg tl) n it L=some (vs,it',[])):zcx tl c it (be n w++L)=some (vs,it'):=by
 subst hw;have KP:=zaF n (sw c);have ht:(be n (sw c)++L).take (sw c)=be n (sw c):=by rw[List.take_append_of_le_length (by omega),ycm (by omega)]
 have hd:(be n (sw c)++L).drop (sw c)=L:=by rw[List.drop_append_of_le_length (by omega),List.drop_of_length_le (by omega),ycu]
 unfold zcx;rw[if_neg (by simp only[ych];omega),ht,hd,zqy _ _ h8,Nat.mod_eq_of_lt hn,if_neg (by omega),if_neg hk,hl]
theorem zdu {tl:Nat→List V→Nat→Lz→Option (V×Nat)}{c c' it it' n w:Nat}{L r:Lz}{ns vs:List V}(hw:sw c=w)(h8:w≤8)(hn:n < 256 ^ w)(Gm:n≤1024)(hk:kof c=24)(hh:headD L=.ok (ns,c',r))(hl:zbe (zch tl (ns.take 16) c') n it r=some (vs,it',[])):zcx tl c it (be n w++L)=some (vs,it'):=by
 subst hw;have KP:=zaF n (sw c);have ht:(be n (sw c)++L).take (sw c)=be n (sw c):=by rw[List.take_append_of_le_length (by omega),ycm (by omega)]
 have hd:(be n (sw c)++L).drop (sw c)=L:=by rw[List.drop_append_of_le_length (by omega),List.drop_of_length_le (by omega),ycu]
 unfold zcx;rw[if_neg (by simp only[ych];omega),ht,hd,zqy _ _ h8,Nat.mod_eq_of_lt hn,if_neg (by omega),if_pos hk,hh];simp only;rw[hl]
theorem zl3 {N:Nat}(hI:∀ M,M < N→zqA M)(hD:∀ M,M < N→zod M):zod N:=by
 intro c f v hN hg hd VW JZ hc;obtain⟨k,n,t,ks⟩:=v;simp only[V.kind] at VW JZ;have kq:1≤k∧k≤24:=by
  have:=zcN _ hg.1
  rwa [zcD VW] at this
 obtain⟨J9,_,gM,gY,Yf⟩:=ze9 kq.2 JZ;by_cases kJ:k≤21
 ·obtain⟨D,h1,h2⟩:=zi8 hg ⟨kq.1,kJ⟩ JZ hc;refine⟨D,h1,fun F it ns hF Gx=>?_⟩;obtain⟨F,rfl⟩:∃ F',F=F'+1:=⟨F - 1,by omega⟩;have gQ:ks=[]:=by
   have:=zbv c D;rw[h2] at this;exact this
  subst gQ;have hi:items (.mk k n t [])=1:=by simp[items,zah]
  rw[hi] at Gx ⊢;rw[zcJ,if_neg (by omega)];unfold zc6;rw[if_pos (by rw[J9];omega),h2]
 ·obtain⟨rfl,rfl⟩:=zt2 (by omega) hg.1;obtain⟨kZ,Y5⟩:=gY (by omega);have JT:=hg.kids;have hlen:=zsz hg;have J0:=zqd hg;have kU:=hg.2.2;have hNk:zai ks < N:=by simp only[bulk] at hN;have:(ByteArray.mk #[]).size=0:=rfl;omega
  simp only[bulk] at kU;simp only[depth] at hd;have hki:∀ it ns,it+items (.mk k 0 ⟨#[]⟩ ks)+2 * ns.length=(it+1+2 * (ns:List V).length)+zah ks:=fun it ns=>by simp only[items];omega
  have Gy:∀ D:Lz,(∀ F it,D.length≤F→it+zah ks≤1024→zcx (zaG F) c it D=some (ks,it+zah ks)) →
    ∀ (F it:Nat) (ns:List V),D.length < F→it+items (.mk k 0 ⟨#[]⟩ ks)+2 * ns.length≤1024→zaG F it ns c D=some (zap ns (.mk k 0 ⟨#[]⟩ ks),it+items (.mk k 0 ⟨#[]⟩ ks)+2 * ns.length):=by
   intro D hK F it ns hF Gx;obtain⟨F,rfl⟩:∃ F',F=F'+1:=⟨F - 1,by omega⟩;rw[hki] at Gx ⊢;rw[zcJ,if_neg (by omega)];unfold zc6;rw[if_neg (by rw[J9];omega),hK F _ (by omega) Gx,J9]
  rcases znN (by omega) JZ with ⟨hw,rfl,rfl⟩ | gP
  ·have gQ:ks=[]:=by exact List.eq_nil_of_length_eq_zero (of_decide_eq_true ((zqz 22 0 ⟨#[]⟩ ks).symm.trans hc))
   subst gQ;have jY:dat c (.mk 22 0 ⟨#[]⟩ [])=[]:=by simp only[dat,dlay];rw[if_pos hw]
   refine⟨[],fun X=>by rw[jY];exact zhN (by omega) (by simpa using Y5),Gy [] fun F it _ _=>?_⟩;have:=zdQ (tl:=zaG F) (c:=c) (it:=it) (n:=0) (w:=0) (L:=[]) (vs:=[]) (it':=it) (by omega) (by omega) (by simp) (by omega) (by omega) (by simp[zbe])
   simpa [be,zah] using this
  ·obtain⟨W,hW,Y6,Gj,Hu,K7⟩:∃ W,wid c=W∧W≤8∧W≠0∧W+zaV (kp k ks) < 256 ^ W∧(ks.length≤1024→ks.length < 256 ^ W):=by
    rcases gP with ⟨e,rfl⟩ | ⟨e,rfl⟩
    ·have gY:=(zob k 0 ⟨#[]⟩ ks).symm.trans hc;simp only[yci,decide_eq_true_eq] at gY;exact⟨1,e,by omega,by omega,by omega,fun _=>by omega⟩
    ·exact⟨4,e,by omega,by omega,by omega,fun h=>by omega⟩
   have jY:dat c (.mk k 0 ⟨#[]⟩ ks)=be (be ks.length W++layK (kp k ks)).length (sw c)++(be ks.length W++layK (kp k ks)):=by
    simp only[dat,dlay];rw[if_neg (by omega),if_neg (by omega),if_neg (by omega),if_neg (by omega),kZ,hW,ych,zaF,hlen,ycq]
   refine⟨be ks.length W++layK (kp k ks),fun X=>by rw[jY];exact zk2 (by omega) (by omega) (by rw[ych,zaF,kZ,hW,←hlen];exact Hu),Gy _ fun F it hF Gx=>?_⟩;rw[ych,zaF] at hF;have Qc:=length_le ks;by_cases jJ:k=24
   ·subst jJ;simp only[kp,if_true] at hF ⊢;cases ks with
    | nil=>exact zdu (by omega) Y6 (K7 (by simp)) (by simp) J9 (show headD (layK (zbf (zar [])))=.ok ([],64,[]) by rfl) (by simp[zbe,zah])
    | cons a r=>
     obtain⟨f',xy,hck1,CG,gm⟩:=zkO hg.1;have hga:=JT.cons.1;have km:=zdt hga.1;have hcp:=zec (core a);have qQ:=(ze9 CG xy).1;rw[zlS a r JT.1] at hF ⊢;have hda:depth a≤16:=by simp only[zas] at hd;omega
     refine zdu (by omega) Y6 (K7 (by omega)) (by omega) J9 (zi9 hga (fun e=>by rw[e] at qQ;have:kof 0=0:=rfl;omega) (by omega) _) ?_;rw[ycm (by omega)];simp only[ych,ycj] at hF;exact zg1 (hD _ hNk) xy (a::r) it zab JT (by omega) gm (by omega) Gx
   ·simp only[kp,if_neg jJ] at hF ⊢;exact zdQ (by omega) Y6 (K7 (by omega)) (by omega) (by omega) (zj (hI _ hNk) ks it zab JT (by omega) (by omega) Gx)
theorem zqB (N:Nat):zqA N∧zod N:=by
 induction N using Nat.strongRecOn with
 | ind N ih=>
  have h:=zl3 (fun M hM=>(ih M hM).1) (fun M hM=>(ih M hM).2);exact⟨zl2 h,h⟩
theorem zqC {v:V}(hg:Enc.Good v)(Hq:okB v=true)(X:Lz):valD (zaG (lay (plan v)++X).length) 0 (lay (plan v)++X)=.ok (v,items v,X):=by
 unfold okB at Hq;simp only[yci,decide_eq_true_eq] at Hq;have:=(zqB (bulk v)).1 v X (lay (plan v)++X).length 0 zab hg Hq.1.2 (by rw[ych];omega) (by omega)
 rwa [ycs] at this
theorem zsM {v:V}(hg:Enc.Good v)(Hq:okB v=true)(X:Lz):decD (lay (plan v)++X)=(v,(lay (plan v)).length,0):=by
 rw[ziG (zqC hg Hq X) Hq];simp only[ycn,and_true,true_and,ych];omega
end Dec
namespace Fl
open Utf Val V
def b1 (ls:List V)(i:Int)(kind:Nat)(must:Bool):Bool:=match ask ls i with
 | none=>must
 | some v=>decide (v.kind≠kind)
def bv (ls:List V)(i:Int)(L:Lz):Bool:=match ask ls i with
 | none=>false
 | some v=>!zdO L v.kind
theorem zbM {α:Type}(ls:List V)(i:Int)(kind:Nat)(must sp:Bool)(z:α)(f:V→α):(oneR ls i kind must sp z f).2=(sp||b1 ls i kind must):=by
 unfold b1;cases ha:ask ls i with
 | none=>rw[zbY ha]
 | some v=>
  by_cases hk:v.kind=kind
  ·rw[zcF ha hk];simp[hk]
  ·rw[zd3 ha hk];simp[hk]
theorem zk3 {α:Type}(ls:List V)(i:Int)(kind:Nat)(must sp:Bool)(z:α)(f:V→α):(oneR ls i kind must sp z f).1=(oneR ls i kind false false z f).1:=by
 cases ha:ask ls i with
 | none=>rw[zbY ha,zbY ha]
 | some v=>
  by_cases hk:v.kind=kind
  ·rw[zcF ha hk,zcF ha hk]
  ·rw[zd3 ha hk,zd3 ha hk]
theorem zc1 (ls:List V)(i:Int)(L:Lz)(sp:Bool):(valR ls i L sp).2=(sp||bv ls i L):=by
 unfold bv;cases ha:ask ls i with
 | none=>rw[zgj ha];simp
 | some v=>
  cases hk:zdO L v.kind with
  | true=>rw[zfD ha hk];simp[hk]
  | false=>rw[zj0 ha hk];simp[hk]
theorem zk4 (ls:List V)(i:Int)(k:Nat):bv ls i [k]=b1 ls i k false:=by
 unfold bv b1;cases ask ls i with
 | none=>rfl
 | some v=>by_cases h:v.kind=k<;>simp[zdO,h]
theorem zbN {ls:List V}{i:Int}{kind:Nat}{must:Bool}(h:ask ls i=none):b1 ls i kind must=must:=by unfold b1;rw[h]
theorem zvc {ls:List V}{i:Int}{kind n:Nat}{t:ByteArray}{ks:List V}{must:Bool}(h:ask ls i=some (.mk kind n t ks)):b1 ls i kind must=false:=by unfold b1;rw[h];simp[V.kind]
theorem zsN {ls:List V}{i:Int}{L:Lz}(h:ask ls i=none):bv ls i L=false:=by unfold bv;rw[h]
theorem zg2 (ls:List V):∀ (n j:Nat),cutN ls n≤j→j < n→zfo ls j=true
 | 0,_,_,h=>by omega
 | n+1,j,hc,hj=>by
  unfold cutN at hc;by_cases h:zfo ls n=true
  ·rw[if_pos h] at hc;by_cases he:j=n
   ·rw[he];exact h
   ·exact zg2 ls n j hc (by omega)
  ·rw[if_neg h] at hc;omega
theorem zk5 (ls:List V)(i:Int):ask (trim ls) i=ask ls i:=by
 unfold ask;by_cases hi:0≤i
 ·rw[if_pos hi,if_pos hi];obtain⟨j,hj⟩:∃ j,i.toNat=j:=⟨_,rfl⟩;rw[hj];unfold trim;by_cases h:j < cutN ls ls.length
  ·rw[List.getElem?_take_of_lt h]
  ·rw[List.getElem?_eq_none (l:=ls.take _) (by simp only[ycp];omega)];by_cases h2:j < ls.length
   ·have hn:=zg2 ls ls.length j (by omega) h2;unfold zfo at hn;rw[List.getElem?_eq_getElem h2] at hn ⊢;have hk:=of_decide_eq_true hn;have hb:((ls[j].kind != 1)=true)↔False:=by simp[hk]
    show none=if (ls[j].kind != 1)=true then some ls[j] else none
    rw[if_neg (fun h=>hb.1 h)]
   ·rw[List.getElem?_eq_none (by omega)]
 ·rw[if_neg hi,if_neg hi]
theorem zqD (ls:List V):(trim ls).length≤ls.length:=by unfold trim;simp only[ycp];omega
theorem zeN {α:Type}(ls:List V)(i:Int)(kind:Nat)(must sp:Bool)(z:α)(f:V→α):oneR (trim ls) i kind must sp z f=oneR ls i kind must sp z f:=by unfold oneR;rw[zk5]
theorem zsO (ls:List V)(i:Int)(kind:Nat)(must:Bool):b1 (trim ls) i kind must=b1 ls i kind must:=by unfold b1;rw[zk5]
end Fl
namespace Me
open Utf Val Fl Oc Dec V
open Enc hiding za3
structure M where
 p:Nat
 ttl:Nat
 n:Nat
 id:ByteArray
 body:Lz
def m0:M:=⟨4,0,0,⟨#[]⟩,[]⟩
noncomputable def mayM (m:M):Bool:=decide (m.p≤9)&&(decide (m.id.size≤64)&&(zb1 20 m.id&&decide (m.body.length≤2048)))
def zc2 (b:Bool)(v:V):V:=if b=true then za3 else v
def mname:Nat→ByteArray
 | 0=>⟨#[97,109,113,112,58,104,101,97,100,101,114,58,108,105,115,116]⟩
 | 1=>⟨#[97,109,113,112,58,100,101,108,105,118,101,114,121,45,97,110,110,111,116,97,116,105,111,110,115,58,109,97,112]⟩
 | 2=>⟨#[97,109,113,112,58,109,101,115,115,97,103,101,45,97,110,110,111,116,97,116,105,111,110,115,58,109,97,112]⟩
 | 3=>⟨#[97,109,113,112,58,112,114,111,112,101,114,116,105,101,115,58,108,105,115,116]⟩
 | 4=>⟨#[97,109,113,112,58,97,112,112,108,105,99,97,116,105,111,110,45,112,114,111,112,101,114,116,105,101,115,58,109,97,112]⟩
 | 5=>⟨#[97,109,113,112,58,100,97,116,97,58,98,105,110,97,114,121]⟩
 | 6=>⟨#[97,109,113,112,58,97,109,113,112,45,115,101,113,117,101,110,99,101,58,108,105,115,116]⟩
 | 7=>⟨#[97,109,113,112,58,97,109,113,112,45,118,97,108,117,101,58,42]⟩
 | _=>⟨#[97,109,113,112,58,102,111,111,116,101,114,58,109,97,112]⟩
def hdL (m:M):List V:=[za3,zc2 (m.p==4) (.mk 3 m.p ⟨#[]⟩ []),zc2 (m.ttl==0) (.mk 5 m.ttl ⟨#[]⟩ []),za3,zc2 (m.n==0) (.mk 5 m.n ⟨#[]⟩ [])]
def hdV (m:M):V:=.mk 25 0 ⟨#[]⟩ (putL 112 (trim (hdL m)))
def prV (id:ByteArray):V:=.mk 25 0 ⟨#[]⟩ (putL 115 [.mk 20 0 id []])
def daV (b:Lz):V:=.mk 25 0 ⟨#[]⟩ [.mk 6 117 ⟨#[]⟩ [],.mk 19 0 (sb b) []]
def hasH (m:M):Bool:=!(m.p==4)||(!(m.ttl==0) || !(m.n==0))
def secM (m:M):List V:=(if hasH m=true then [hdV m] else [])++((if m.id.size=0 then [] else [prV m.id])++[daV m.body])
def layL:List V→Lz
 | []=>[]
 | v::l=>lay (plan v)++layL l
noncomputable def putM (m:M):Option Lz:=if mayM m=true then some (layL (secM m)) else none
def named (d:V)(i:Nat):Bool:=(decide (d.kind=6)&&decide (d.num=112+i))||(decide (d.kind=21)&&decide (d.text=mname i))
def zb8 (v:V):Option (Nat×V):=if v.kind=25 then (match v.kids with
  | [d,x]=>((List.range 9).find? (named d)).map fun i=>(i,x)
  | _=>none) else none
def idsL:Lz:=[6,15,19,20]
def hdB (ls:List V):Bool:=b1 ls 0 2 false||(b1 ls 1 3 false||(b1 ls 2 5 false||(b1 ls 3 2 false||(b1 ls 4 5 false||(decide (5 < ls.length)||decide (9 < (oneR ls 1 3 false false 4 V.num).1))))))
def idR (ls:List V):ByteArray:=if (valR ls 0 idsL false).1.kind=20 then (valR ls 0 idsL false).1.text else ⟨#[]⟩
def prB (ls:List V):Bool:=bv ls 0 idsL||(b1 ls 1 19 false||(b1 ls 2 20 false||(b1 ls 3 20 false||(b1 ls 4 20 false||(bv ls 5 idsL||(b1 ls 6 21 false||(b1 ls 7 21 false||(b1 ls 8 14 false||(b1 ls 9 14 false||(b1 ls 10 20 false||(b1 ls 11 5 false||(b1 ls 12 20 false||(decide (13 < ls.length)||decide (64 < (idR ls).size))))))))))))))
structure St where
 m:M
 last:Nat
 body:Bool
def s0:St:=⟨m0,0,false⟩
noncomputable def za5 (s:St)(v:V):Option St:=match zb8 v with
 | none=>none
 | some (i,x)=>
  if 112+i < s.last∨(112+i=s.last∧i≠5) then none
  else if i=0 then (match newR v 112 (mname 0) with
   | none=>none
   | some ls=>if hdB ls=true then none else some ⟨{ s.m with p:=(oneR ls 1 3 false false 4 V.num).1,ttl:=(oneR ls 2 5 false false 0 V.num).1,n:=(oneR ls 4 5 false false 0 V.num).1 },112,s.body⟩)
  else if i=3 then (match newR v 115 (mname 3) with
   | none=>none
   | some ls=>if prB ls=true then none else some ⟨{ s.m with id:=idR ls },115,s.body⟩)
  else if i=5 then (if x.kind=19 then some ⟨{ s.m with body:=s.m.body++tb x.text },117,true⟩ else none)
  else if i=6∨i=7 then none
  else if x.kind=23 then some ⟨s.m,112+i,s.body⟩ else none
noncomputable def foldM:St→List V→Option St
 | s,[]=>some s
 | s,v::l=>match za5 s v with
  | none=>none
  | some s'=>foldM s' l
noncomputable def getN:Nat→St→Lz→Option St
 | _,s,[]=>some s
 | 0,_,_::_=>none
 | N+1,s,x::b=>if (decD (x::b)).2.2=0 then (match za5 s (decD (x::b)).1 with
   | none=>none
   | some s'=>getN N s' ((x::b).drop (decD (x::b)).2.1)) else none
noncomputable def finM (s:St):Option M:=if s.body=true∧s.m.body.length≤2048 then some s.m else none
noncomputable def getM (b:Lz):Option M:=match getN b.length s0 b with
 | none=>none
 | some s=>finM s
theorem zfI (N:Nat)(s:St):getN N s []=some s:=by cases N<;>rfl
theorem zcu (N:Nat)(s:St){b:Lz}(hb:b≠[]):getN (N+1) s b=if (decD b).2.2=0 then (match za5 s (decD b).1 with
  | none=>none
  | some s'=>getN N s' (b.drop (decD b).2.1)) else none:=by
 cases b with
 | nil=>exact absurd rfl hb
 | cons x b=>rfl
theorem zfa {b:Lz}(h:(decD b).2.2=0):1≤(decD b).2.1∧(decD b).2.1≤b.length:=by
 rcases hd:decD b with ⟨v,n,e⟩
 rw[hd] at h;simp only at h;subst h;have:=zrj hd;exact⟨this.1,this.2.1⟩
theorem zeO:∀ (N N':Nat) (s:St) (b:Lz),b.length≤N→b.length≤N'→getN N s b=getN N' s b
 | N,N',s,[],_,_=>by rw[zfI,zfI]
 | 0,_,_,_::_,h,_=>by simp at h
 | _+1,0,_,_::_,_,h=>by simp at h
 | N+1,N'+1,s,x::b,h,h'=>by
  rw[zcu N s (by simp),zcu N' s (by simp)];by_cases hd:(decD (x::b)).2.2=0
  ·rw[if_pos hd,if_pos hd];have:=zfa hd;cases za5 s (decD (x::b)).1 with
   | none=>rfl
   | some s'=>exact zeO N N' s' _ (by simp only[yck,ycj] at *;omega) (by simp only[yck,ycj] at *;omega)
  ·rw[if_neg hd,if_neg hd]
noncomputable def getS (s:St)(b:Lz):Option St:=getN b.length s b
theorem zof {s:St}{v:V}(hg:Enc.Good v)(Hq:okB v=true)(X:Lz):getS s (lay (plan v)++X)=(match za5 s v with
  | none=>none
  | some s'=>getS s' X):=by
 have hd:=zsM hg Hq X;have hn:=(zrj hd).1;have Hp:lay (plan v)++X≠[]:=fun e=>by have:=congrArg List.length e;simp only[ych,List.length_nil] at this;omega
 unfold getS;rw[zeO _ ((lay (plan v)++X).length+1) s _ zab (by omega),zcu _ _ Hp,hd];simp only[if_true];cases za5 s v with
 | none=>rfl
 | some s'=>
  simp only[List.drop_left];exact zeO _ _ _ _ (by simp only[ych];omega) zab
theorem zqE {l:List V}(h:∀ v∈l,Enc.Good v∧okB v=true)(s:St):getS s (layL l)=foldM s l:=by
 induction l generalizing s with
 | nil=>rfl
 | cons v l ih=>
  show getS s (lay (plan v)++layL l)=_
  rw[zof (h v (by simp)).1 (h v (by simp)).2];unfold foldM;cases za5 s v with
  | none=>rfl
  | some s'=>exact ih (fun x hx=>h x (List.mem_cons_of_mem _ hx)) s'
theorem zqF {l:List V}(h:∀ v∈l,Enc.Good v∧okB v=true):getM (layL l)=(match foldM s0 l with
  | none=>none
  | some s=>finM s):=by
 show (match getS s0 (layL l) with
  | none=>none
  | some s=>finM s)=_
 rw[zqE h]
theorem sz0:(⟨#[]⟩:ByteArray).size=0:=rfl
theorem zvd {l:Lz}(h:∀ x∈l,x < 256):tb (sb l)=l:=by
 have e:tb (sb l)=l.map fun x=>(UInt8.ofNat x).toNat:=by simp[tb,sb]
 rw[e];exact(List.map_congr_left fun x hx=>by rw[UInt8.toNat_ofNat'];exact Nat.mod_eq_of_lt (h x hx)).trans (List.map_id' _)
theorem zf8 (l:Lz):(sb l).size=l.length:=by simp[sb,ByteArray.size]
theorem zt6 {n:Nat}(h:n < 256):mayB (.mk 3 n ⟨#[]⟩ [])=true:=by simp[mayB,mayL,zam,emp0,numB,zaR,h]
theorem zsP {t:ByteArray}(h:zb1 20 t=true):mayB (.mk 20 0 t [])=true:=by
 have h1:zam 20 0 t 0=true:=by
  unfold zam;rw[if_neg (by omega),if_neg (by omega),if_pos (by omega),h];rfl
 simp[mayB,mayL,h1,zaR]
theorem zsQ (t:ByteArray):mayB (.mk 19 0 t [])=true:=by
 have h1:zam 19 0 t 0=true:=by
  unfold zam;rw[if_neg (by omega),if_neg (by omega),if_pos (by omega)];rfl
 simp[mayB,mayL,h1,zaR]
theorem zhO {b:Bool}{v:V}(h:b=false→mayB v=true):mayB (zc2 b v)=true:=by
 cases b with
 | true=>exact zfH
 | false=>exact h rfl
theorem zgp {b:Bool}{k n:Nat}:items (zc2 b (.mk k n ⟨#[]⟩ []))=1∧depth (zc2 b (.mk k n ⟨#[]⟩ []))=1∧bulk (zc2 b (.mk k n ⟨#[]⟩ []))=1:=by
 cases b<;>exact⟨rfl,rfl,rfl⟩
theorem zj5 {b:Bool}{k n:Nat}(h:n < 18446744073709551616):Enc.n64 (zc2 b (.mk k n ⟨#[]⟩ [])):=by
 cases b with
 | true=>exact⟨by omega,trivial⟩
 | false=>exact⟨h,trivial⟩
theorem zog:∀ (l:List V) (j:Nat),Enc.n64L l→Enc.n64L (l.take j)
 | [],_,h=>by simpa using h
 | _::_,0,_=>trivial
 | x::l,j+1,h=>⟨h.1,zog l j h.2⟩
theorem zsR {m:M}(hp:m.p < 256)(ht:m.ttl < 4294967296)(hn:m.n < 4294967296):mayL (hdL m)=true:=by simp only[hdL,mayL,zfH,zhO (fun _=>zt6 hp),zhO (fun _=>zj3 ht),zhO (fun _=>zj3 hn),Bool.and_true]
theorem zhP (m:M):zah (hdL m)=5∧zas (hdL m)=1∧zai (hdL m)=5:=by
 simp only[hdL,zah,zas,zai,zgp.1,zgp.2.1,zgp.2.2];exact⟨rfl,rfl,rfl⟩
theorem zt7 {m:M}(hp:m.p < 256)(ht:m.ttl < 4294967296)(hn:m.n < 4294967296):Enc.n64L (hdL m):=
 ⟨⟨by omega,trivial⟩,zj5 (by omega),zj5 (by omega),⟨by omega,trivial⟩,zj5 (by omega),trivial⟩
theorem zsS {m:M}(hp:m.p < 256)(ht:m.ttl < 4294967296)(hn:m.n < 4294967296):okB (hdV m)=true:=by
 have h:=zhP m;refine zeM (zct 112) rfl (by simp[items,zah]) (by simp[depth,zas]) (zn7 (zsR hp ht hn) _) (ycl (zbQ _ _) (by omega)) (ycl (zbl _ _) (by omega))
theorem zsT {m:M}(hp:m.p < 256)(ht:m.ttl < 4294967296)(hn:m.n < 4294967296):Enc.Good (hdV m):=by
 refine⟨zcs (zsS hp ht hn),⟨by omega,⟨by omega,trivial⟩,⟨by omega,zog _ _ (zt7 hp ht hn)⟩,trivial⟩,?_⟩;have h:=zhP m;have h2:=zdr (hdL m) (cutN (hdL m) (hdL m).length);simp only[hdV,putL,bulk,zai,trim,sz0];omega
theorem zsU {id:ByteArray}(h:zb1 20 id=true):okB (prV id)=true:=
 zeM (zct 115) rfl (by simp[items,zah]) (by simp[depth,zas]) (by simp[mayL,zsP h]) (by simp[items,zah]) (by simp[depth,zas])
theorem zsV {id:ByteArray}(h:zb1 20 id=true)(hs:id.size≤64):Enc.Good (prV id):=by
 refine⟨zcs (zsU h),⟨by omega,⟨by omega,trivial⟩,⟨by omega,⟨by omega,trivial⟩,trivial⟩,trivial⟩,?_⟩;simp only[prV,putL,bulk,zai,sz0];omega
theorem zt8 (b:Lz):okB (daV b)=true:=by
 have hm:mayB (daV b)=true:=zhM (zct 117) rfl (zsQ _);unfold okB;rw[hm,decide_eq_true (by simp[daV,items,zah]),decide_eq_true (by simp[daV,depth,zas])];rfl
theorem zsW {b:Lz}(hs:b.length≤60000000):Enc.Good (daV b):=by
 refine⟨zcs (zt8 b),⟨by omega,⟨by omega,trivial⟩,⟨by omega,trivial⟩,trivial⟩,?_⟩;simp only[daV,bulk,zai,sz0,zf8];omega
theorem zhQ {ls:List V}{j k n z:Nat}{b:Bool}(h:ls[j]? = some (zc2 b (.mk k n ⟨#[]⟩ [])))(hk:k≠1)(hz:b=true→n=z):(oneR ls (j:Int) k false false z V.num).1=n∧b1 ls (j:Int) k false=false:=by
 cases b with
 | true=>
  have ha:=zeB (j:=j) h;rw[zbY ha,zbN ha];exact⟨(hz rfl).symm,rfl⟩
 | false=>
  have ha:=zeC (j:=j) h hk;rw[zcF (kind:=k) ha rfl,zvc ha];exact⟨rfl,rfl⟩
theorem zsX (m:M)(hp:m.p≤9):hdB (trim (hdL m))=false∧(oneR (trim (hdL m)) 1 3 false false 4 V.num).1=m.p∧(oneR (trim (hdL m)) 2 5 false false 0 V.num).1=m.ttl∧(oneR (trim (hdL m)) 4 5 false false 0 V.num).1=m.n:=by
 have h0:Fl.ask (hdL m) 0=none:=zeB (j:=0) rfl;have h3:Fl.ask (hdL m) 3=none:=zeB (j:=3) rfl;obtain⟨e1,f1⟩:(oneR (hdL m) 1 3 false false 4 V.num).1=m.p∧b1 (hdL m) 1 3 false=false:=zhQ (j:=1) (ls:=hdL m) (b:=m.p==4) rfl (by omega) (fun h=>by simpa using h);obtain⟨e2,f2⟩:(oneR (hdL m) 2 5 false false 0 V.num).1=m.ttl∧b1 (hdL m) 2 5 false=false:=zhQ (j:=2) (ls:=hdL m) (b:=m.ttl==0) rfl (by omega) (fun h=>by simpa using h);obtain⟨e4,f4⟩:(oneR (hdL m) 4 5 false false 0 V.num).1=m.n∧b1 (hdL m) 4 5 false=false:=zhQ (j:=4) (ls:=hdL m) (b:=m.n==0) rfl (by omega) (fun h=>by simpa using h);have hl:(trim (hdL m)).length≤5:=zqD (hdL m);refine⟨?_,by rw[zeN];exact e1,by rw[zeN];exact e2,by rw[zeN];exact e4⟩;unfold hdB;simp only[zsO,zeN];rw[zbN h0,f1,f2,zbN h3,f4,e1,decide_eq_false (show ¬ 5 < (trim (hdL m)).length by omega),decide_eq_false (show ¬ 9 < m.p by omega)];rfl
theorem zt9 {m:M}(hp:m.p < 256)(ht:m.ttl < 4294967296)(hn:m.n < 4294967296):newR (hdV m) 112 (mname 0)=some (trim (hdL m)):=by
 have Hq:=zsS hp ht hn;unfold hdV putL at Hq ⊢;rw[zeK Hq,zcZ,decide_eq_true rfl,if_pos rfl]
theorem zu {id:ByteArray}(h:zb1 20 id=true):newR (prV id) 115 (mname 3)=some [.mk 20 0 id []]:=by
 have Hq:=zsU h;unfold prV putL at Hq ⊢;rw[zeK Hq,zcZ,decide_eq_true rfl,if_pos rfl]
theorem zsY {id:ByteArray}(hs:id.size≤64):prB [.mk 20 0 id []]=false∧idR [.mk 20 0 id []]=id:=by
 have h0:Fl.ask [.mk 20 0 id []] 0=some (.mk 20 0 id []):=zeC (j:=0) rfl (by omega);have hf:∀ j:Nat,1≤j→Fl.ask [V.mk 20 0 id []] (j:Int)=none:=fun j hj=>zjY (by simp;omega);have hv:valR [.mk 20 0 id []] 0 idsL false=(.mk 20 0 id [],false):=zfD h0 (show zdO idsL 20=true by decide);have hi:idR [.mk 20 0 id []]=id:=by unfold idR;rw[hv];rfl
 refine⟨?_,hi⟩;have hb:bv [.mk 20 0 id []] 0 idsL=false:=by
  have:=zc1 [.mk 20 0 id []] 0 idsL false;rw[hv] at this
  simpa using this.symm
 have g1:Fl.ask [V.mk 20 0 id []] 1=none:=hf 1 (by omega);have g2:Fl.ask [V.mk 20 0 id []] 2=none:=hf 2 (by omega);have g3:Fl.ask [V.mk 20 0 id []] 3=none:=hf 3 (by omega);have g4:Fl.ask [V.mk 20 0 id []] 4=none:=hf 4 (by omega);have g5:Fl.ask [V.mk 20 0 id []] 5=none:=hf 5 (by omega);have g6:Fl.ask [V.mk 20 0 id []] 6=none:=hf 6 (by omega);have g7:Fl.ask [V.mk 20 0 id []] 7=none:=hf 7 (by omega);have g8:Fl.ask [V.mk 20 0 id []] 8=none:=hf 8 (by omega);have g9:Fl.ask [V.mk 20 0 id []] 9=none:=hf 9 (by omega);have g10:Fl.ask [V.mk 20 0 id []] 10=none:=hf 10 (by omega);have g11:Fl.ask [V.mk 20 0 id []] 11=none:=hf 11 (by omega);have g12:Fl.ask [V.mk 20 0 id []] 12=none:=hf 12 (by omega);unfold prB;rw[hb,zbN g1,zbN g2,zbN g3,zbN g4,zsN g5,zbN g6,zbN g7,zbN g8,zbN g9,zbN g10,zbN g11,zbN g12,hi,decide_eq_false (show ¬ 64 < id.size by omega)];rfl
theorem zua {s:St}{v x:V}{ls:List V}(h:zb8 v=some (0,x))(hl:s.last < 112)(hn:newR v 112 (mname 0)=some ls)(hb:hdB ls=false) :
  za5 s v=some ⟨{ s.m with p:=(oneR ls 1 3 false false 4 V.num).1,ttl:=(oneR ls 2 5 false false 0 V.num).1,n:=(oneR ls 4 5 false false 0 V.num).1 },112,s.body⟩:=by
 unfold za5;rw[h];simp only;rw[if_neg (by omega),if_pos trivial,hn];simp only;rw[if_neg (by rw[hb];exact yco)]
theorem zub {s:St}{v x:V}{ls:List V}(h:zb8 v=some (3,x))(hl:s.last < 115)(hn:newR v 115 (mname 3)=some ls)(hb:prB ls=false) :
  za5 s v=some ⟨{ s.m with id:=idR ls },115,s.body⟩:=by
 unfold za5;rw[h];simp only;rw[if_neg (by omega),if_neg (by omega),if_pos trivial,hn];simp only;rw[if_neg (by rw[hb];exact yco)]
theorem zuc {s:St}{v x:V}(h:zb8 v=some (5,x))(hl:s.last≤117)(hx:x.kind=19):za5 s v=some ⟨{ s.m with body:=s.m.body++tb x.text },117,true⟩:=by
 unfold za5;rw[h];simp only;rw[if_neg (by omega),if_neg (by omega),if_neg (by omega),if_pos trivial,if_pos hx]
theorem zsZ (m:M):zb8 (hdV m)=some (0,.mk 22 0 ⟨#[]⟩ (trim (hdL m))):=rfl
theorem zs0 (id:ByteArray):zb8 (prV id)=some (3,.mk 22 0 ⟨#[]⟩ [.mk 20 0 id []]):=rfl
theorem zs1 (b:Lz):zb8 (daV b)=some (5,.mk 19 0 (sb b) []):=rfl
theorem zeP {m:M}(h:mayM m=true):m.p≤9∧m.id.size≤64∧zb1 20 m.id=true∧m.body.length≤2048:=by
 unfold mayM at h;simp only[yci] at h;exact⟨of_decide_eq_true h.1,of_decide_eq_true h.2.1,h.2.2.1,of_decide_eq_true h.2.2.2⟩
theorem zhR {m:M}(h:mayM m=true)(ht:m.ttl < 4294967296)(hn:m.n < 4294967296):∀ v∈secM m,Enc.Good v∧okB v=true:=by
 obtain⟨h1,h2,h3,h4⟩:=zeP h;intro v hv;unfold secM at hv;rcases List.mem_append.1 hv with hv | hv
 ·cases hh:hasH m with
  | true=>rw[hh,if_pos rfl] at hv;rw[List.mem_singleton.1 hv];exact⟨zsT (by omega) ht hn,zsS (by omega) ht hn⟩
  | false=>rw[hh,if_neg yco] at hv;cases hv
 ·rcases List.mem_append.1 hv with hv | hv
  ·by_cases hi:m.id.size=0
   ·rw[if_pos hi] at hv;cases hv
   ·rw[if_neg hi] at hv;rw[List.mem_singleton.1 hv];exact⟨zsV h3 h2,zsU h3⟩
  ·rw[List.mem_singleton.1 hv];exact⟨zsW (by omega),zt8 _⟩
theorem zgq (s:St)(a b:List V):foldM s (a++b)=(match foldM s a with
  | none=>none
  | some s'=>foldM s' b):=by
 induction a generalizing s with
 | nil=>rfl
 | cons v a ih=>
  show (match za5 s v with
   | none=>none
   | some s'=>foldM s' (a++b))=(match (match za5 s v with
   | none=>none
   | some s'=>foldM s' a) with
   | none=>none
   | some s'=>foldM s' b)
  cases za5 s v with
  | none=>rfl
  | some s'=>exact ih s'
theorem zhS {s s':St}{v:V}(h:za5 s v=some s'):foldM s [v]=some s':=by
 show (match za5 s v with
   | none=>none
   | some s'=>foldM s' [])=_
 rw[h];rfl
theorem zqG {m:M}(h:mayM m=true)(ht:m.ttl < 4294967296)(hn:m.n < 4294967296)(hb:∀ x∈m.body,x < 256):foldM s0 (secM m)=some ⟨m,117,true⟩:=by
 obtain⟨h1,h2,h3,h4⟩:=zeP h;have hH:∃ la,la < 115∧foldM s0 (if hasH m=true then [hdV m] else [])=some ⟨⟨m.p,m.ttl,m.n,⟨#[]⟩,[]⟩,la,false⟩:=by
  cases hh:hasH m with
  | true=>
   rw[if_pos rfl];obtain⟨r0,r1,r2,r3⟩:=zsX m h1;refine⟨112,by omega,zhS ?_⟩;rw[zua (zsZ m) (by decide) (zt9 (by omega) ht hn) r0,r1,r2,r3];rfl
  | false=>
   rw[if_neg yco];unfold hasH at hh;simp at hh;refine⟨0,by omega,?_⟩;rw[hh.1,hh.2.1,hh.2.2];rfl
 obtain⟨la,hla,hH⟩:=hH;have hP:∃ lb,lb≤117∧foldM ⟨⟨m.p,m.ttl,m.n,⟨#[]⟩,[]⟩,la,false⟩ (if m.id.size=0 then [] else [prV m.id])=some ⟨⟨m.p,m.ttl,m.n,m.id,[]⟩,lb,false⟩:=by
  by_cases hi:m.id.size=0
  ·rw[if_pos hi,zbT hi];exact⟨la,by omega,rfl⟩
  ·rw[if_neg hi];obtain⟨r0,r1⟩:=zsY h2;refine⟨115,by omega,zhS ?_⟩;rw[zub (zs0 m.id) hla (zu h3) r0,r1]
 obtain⟨lb,Jb,hP⟩:=hP;unfold secM;rw[zgq,hH];simp only;rw[zgq,hP];simp only;refine zhS ?_;rw[zuc (zs1 m.body) Jb rfl]
 show some (St.mk ⟨m.p,m.ttl,m.n,m.id,[]++tb (sb m.body)⟩ 117 true)=_
 rw[zvd hb];rfl
theorem zn9 {m:M}(h:mayM m=true)(ht:m.ttl < 4294967296)(hn:m.n < 4294967296)(hb:∀ x∈m.body,x < 256):getM (layL (secM m))=some m:=by
 rw[zqF (zhR h ht hn),zqG h ht hn hb];exact if_pos ⟨rfl,(zeP h).2.2.2⟩
theorem zk6 {ls:List V}(h:mayL ls=true)(i:Int):(oneR ls i 5 false false 0 V.num).1 < 4294967296:=by
 cases ha:Fl.ask ls i with
 | none=>rw[zbY ha];exact Nat.zero_lt_succ _
 | some v=>
  by_cases hk:v.kind=5
  ·rw[zcF ha hk];have hm:=zsI h ha;obtain⟨k,n,t,ks⟩:=v;have hk:k=5:=hk;subst hk;exact zqq hm
  ·rw[zd3 ha hk];exact Nat.zero_lt_succ _
theorem zj6 (a b:List V):layL (a++b)=layL a++layL b:=by
 induction a with
 | nil=>rfl
 | cons v a ih=>show lay (plan v)++layL (a++b)=_;rw[ih];exact(ycq _ _ _).symm
theorem zk7 {s:St}{v x:V}{i:Nat}(h:zb8 v=some (i,x))(hc:112+i < s.last∨(112+i=s.last∧i≠5)):za5 s v=none:=by
 unfold za5;rw[h];simp only;rw[if_pos hc]
theorem zj7 {s:St}{v x:V}{i:Nat}(h:zb8 v=some (i,x))(hi:i=6∨i=7):za5 s v=none:=by
 unfold za5;rw[h];simp only;by_cases hc:112+i < s.last∨(112+i=s.last∧i≠5)
 ·rw[if_pos hc]
 ·rw[if_neg hc,if_neg (by omega),if_neg (by omega),if_neg (by omega),if_pos hi]
end Me
end Go.Proofs.YtbbbanfggcediaaGreatDoor
