/-
  Contracts of functions and plain mathematics, text by text, each with its conditions ahead of it:
  What encode tells is told back, part by part: numbers, texts, codes. No Go in it.
  What encode tells of a value is told back as it, with anything behind it. No Go in it.
  Messages as bytes, as plain mathematics: sections one behind the other; what Put tells, what Get reads, that what is put is got as it was, and that what is got may be put. No Go in it.
  Messages, plain: what Put tells Get reads as it was; what Get reads may be. No Go in it.
  Messages, plain: what Get reads may be, and is read again behind Put; data in many sections; what stands behind; values one behind the other. No Go in it.
  Messages, plain: sections in any order (MessageOrder), and heads with fields beside (MessageHeads). No Go in it.
-/
import Derived.Test.YtcilmmdmkpnppaaGreatDoorY10
import Derived.Test.YtcilmmdmkpnppaaGreatDoorY14
import Derived.Test.YtcilmmdmkpnppaaGreatDoorY18
section
namespace Go.Proofs.YtcilmmdmkpnppaaGreatDoor.Dec
set_option maxRecDepth 100000
open Val V Utf Enc
theorem nb_cons (a:Nat)(l:List Nat):Dec.nb (a::l)=a * 256 ^ l.length+Dec.nb l:=by
 have h:∀ (l:List Nat) (x:Nat),l.foldl (fun x o=>x * 256+o) x=x * 256 ^ l.length+Dec.nb l:=by
  intro l
  induction l with
  | nil=>intro x;simp[Dec.nb]
  | cons c l ih=>
   intro x;simp only[Dec.nb,List.foldl_cons,List.length_cons] at ih ⊢;rw[ih,ih (0 * 256+c),Nat.zero_mul,Nat.zero_add,Nat.pow_succ,Nat.add_mul,Nat.mul_assoc,Nat.mul_comm 256];omega
 have:=h l a;simp only[Dec.nb,List.foldl_cons] at this ⊢;rw[Nat.zero_mul,Nat.zero_add];exact this
theorem nb_be (X:Nat):∀ k,Dec.nb (be X k)=X % 256 ^ k
 | 0=>by simp[be,Dec.nb,Nat.mod_one]
 | k+1=>by
  rw[be,nb_cons,nb_be X k,be_length,Nat.mod_pow_succ,Nat.mul_comm];omega
theorem tn_be (X k:Nat)(h:k≤8):tn (be X k)=X % 256 ^ k:=by
 unfold tn;rw[be_length,if_pos h,nb_be]
theorem sb_tb (t:ByteArray):sb (tb t)=t:=by
 obtain⟨a⟩:=t;simp only[sb,tb,List.map_map]
 congr 1
 have:(a.toList.map (UInt8.ofNat ∘ UInt8.toNat))=a.toList:=by
  conv=>rhs;rw[←List.map_id a.toList]
  apply List.map_congr_left
  intro x _;simp
 rw[this]
theorem code_facts:((List.range 25).all fun k=>(chs k).all fun x=>decide (kof x.1=k)&&decide (x.1 < 256)&&(decide (19≤k)||decide (sw x.1=0∧lg x.1=wid x.1))&&(decide (k < 19)||decide (sw x.1=wid x.1∧lg x.1=0))&&decide (wid x.1≤16)&&(decide (15≤k)||decide (wid x.1≤8)))=true:=by decide +kernel
theorem code_of {k c:Nat}{f:Enc.Can}(hk:k≤24)(h:(c,f)∈chs k):kof c=k∧c < 256∧(k < 19→sw c=0∧lg c=wid c)∧(19≤k→sw c=wid c∧lg c=0)∧(k < 15→wid c≤8):=by
 have h1:=List.all_eq_true.1 code_facts k (by simp;omega);have h2:=List.all_eq_true.1 h1 (c,f) h;simp only[Bool.and_eq_true,Bool.or_eq_true,decide_eq_true_eq] at h2;obtain⟨⟨⟨⟨⟨a1,a2⟩,a3⟩,a4⟩,a5⟩,a6⟩:=h2;exact⟨a1,a2,fun h=>a3.resolve_left (by omega),fun h=>a4.resolve_left (by omega),fun h=>a6.resolve_left (by omega)⟩
theorem num_back {k c n:Nat}{f:Enc.Can}(hk:1≤k∧k≤14)(h:(c,f)∈chs k)(h1:k=1→n=0)(hf:2≤k→canN f n)(hn:2≤k→numB k n=true)(h6:n < 18446744073709551616):plainV c (be n (wid c))=.mk k n ⟨#[]⟩ []:=by
 have:k=1∨k=2∨k=3∨k=4∨k=5∨k=6∨k=7∨k=8∨k=9∨k=10∨k=11∨k=12∨k=13∨k=14:=by omega
 have hw:=(code_of (by omega) h).2.2.2.2 (by omega);have ht:=tn_be n (wid c) hw;have hl:=be_length n (wid c);generalize hd:be n (wid c)=d at ht hl;rcases this with rfl | rfl | rfl | rfl | rfl | rfl | rfl | rfl | rfl | rfl | rfl | rfl | rfl | rfl<;>
  simp only[chs,List.mem_cons,Prod.mk.injEq,List.not_mem_nil,or_false] at h<;>
  (repeat' (refine Or.elim h (fun h=>?_) (fun h=>?_)))<;>
  (obtain⟨rfl,rfl⟩:=h)<;>
  (simp[wid] at ht hl)<;>
  (simp[plainV,kof,kof2,ht,hl,sgw])<;>
  (simp[canN,numB,sgB,isC] at h1 hf hn)<;>
  (try (have hs:=sg1_near hf h6)) <;> 
  (try omega)<;>(try (split<;>omega))<;>(try (rw[hf];rfl))
end Go.Proofs.YtcilmmdmkpnppaaGreatDoor.Dec
namespace Go.Proofs.YtcilmmdmkpnppaaGreatDoor.Dec
set_option maxRecDepth 100000
open Val V Utf Enc
theorem name_leaf {k n:Nat}{t:ByteArray}{ks:List V}(h:mayB (.mk k n t ks)=true)(hn:nameB k=true):(k=6∨k=21)∧ks=[]:=by
 have hk:k=6∨k=21:=by simpa [nameB] using hn
 refine⟨hk,?_⟩;rcases hk with rfl | rfl
 ·exact(aloneN (by omega) h).2.1
 ·exact(aloneT (by omega) h).2.1
theorem called_spec (N:Nat):∀ v:V,bulk v≤N→mayB v=true→(∀ x∈called v,mayB x=true∧nameB x.kind=true)∧items v=items (core v)+2 * (called v).length∧(called v).length+depth (core v)≤depth v∧calledV (called v) (core v)=v:=by
 induction N with
 | zero=>intro v hN;have:=bulk_pos v;omega
 | succ N ih=>
  intro v hN h;obtain⟨k,n,t,ks⟩:=v;by_cases hk:k=25
  ·subst hk;obtain⟨rfl,rfl⟩:=desc_plain h;obtain⟨x,y,rfl,hx1,hx,hy⟩:=may_desc h;obtain⟨i1,i2,i3,i4⟩:=ih y (by simp only[bulk,bulkL] at hN;omega) hy;have hxi:items x=1∧depth x=1:=by
    obtain⟨xk,xn,xt,xs⟩:=x;obtain⟨_,rfl⟩:=name_leaf hx hx1;simp[items,itemsL,depth,depthL]
   rw[called_desc,core_desc];refine⟨fun z hz=>?_,?_,?_,?_⟩
   ·rcases List.mem_cons.1 hz with rfl | hz
    ·exact⟨hx,hx1⟩
    ·exact i1 z hz
   ·simp only[items,itemsL,List.length_cons,hxi.1];omega
   ·simp only[depth,depthL,List.length_cons,hxi.2];omega
   ·rw[calledV,i4]
  ·rw[called_not hk,core_not hk];exact⟨fun x hx=>(by cases hx),by simp,by simp,rfl⟩
theorem called_whole {v:V}(h:mayB v=true):calledV (called v) (core v)=v:=(called_spec _ v (Nat.le_refl _) h).2.2.2
theorem called_items {v:V}(h:mayB v=true):items v=items (core v)+2 * (called v).length:=(called_spec _ v (Nat.le_refl _) h).2.1
theorem called_depth {v:V}(h:mayB v=true):(called v).length+depth (core v)≤depth v:=(called_spec _ v (Nat.le_refl _) h).2.2.1
theorem data_fix {c:Nat}{d X:List Nat}(h0:sw c=0)(h:lg c=d.length):dataD c (d++X)=some (d,X):=by
 unfold dataD;rw[if_pos h0,h,if_pos (by simp)];simp
theorem data_var {c:Nat}{d X:List Nat}(h0:sw c≠0)(h4:sw c≤8)(h:d.length < 256 ^ sw c):dataD c (be d.length (sw c)++d++X)=some (d,X):=by
 unfold dataD;have hl:=be_length d.length (sw c);have ht:(be d.length (sw c)++d++X).take (sw c)=be d.length (sw c):=by rw[List.append_assoc,List.take_append_of_le_length (by omega),List.take_of_length_le (by omega)]
 have hd:(be d.length (sw c)++d++X).drop (sw c)=d++X:=by rw[List.append_assoc,List.drop_append_of_le_length (by omega),List.drop_of_length_le (by omega),List.nil_append]
 rw[if_neg h0,if_pos (by simp only[List.length_append];omega),ht,hd,tn_be _ _ h4,Nat.mod_eq_of_lt h,if_pos (by simp)];simp
theorem can_short (k n:Nat)(t:ByteArray)(ks:List V):can .short (rawv (.mk k n t ks))=decide (t.size≤255):=rfl
theorem can_none (k n:Nat)(t:ByteArray)(ks:List V):can .none_ (rawv (.mk k n t ks))=decide (ks.length=0):=rfl
theorem can_small (k n:Nat)(t:ByteArray)(ks:List V):can .small (rawv (.mk k n t ks))=(decide (1+longK (kp k ks)≤255)&&decide (ks.length≤255)):=rfl
theorem leaf_back {k n c:Nat}{f:Enc.Can}{t:ByteArray}{ks:List V}(hg:Enc.Good (.mk k n t ks))(hk:1≤k∧k≤21)(h:(c,f)∈chs k)(hc:can f (rawv (.mk k n t ks))=true) :
  ∃ D,(∀ X,dataD c (dat c (.mk k n t ks)++X)=some (D,X))∧plainV c D=.mk k n t ks:=by
 obtain⟨hm,h6,hb⟩:=hg;obtain⟨hkof,_,hc1,hc2,hw8⟩:=code_of (by omega) h;have hn6:n < 18446744073709551616:=h6.1;by_cases h15:k < 15
 ·obtain⟨h0,hlg⟩:=hc1 (by omega);have hdat:dat c (.mk k n t ks)=be n (wid c):=by
   simp only[dat,dlay];by_cases hw:wid c=0
   ·rw[if_pos hw,hw];rfl
   ·rw[if_neg hw,if_pos h15]
  refine⟨be n (wid c),fun X=>by rw[hdat];exact data_fix h0 (by rw[be_length];exact hlg),?_⟩;by_cases h1:k=1
  ·subst h1;obtain⟨rfl,rfl,rfl⟩:=alone1 hm;exact num_back (by omega) h (fun _=>rfl) (fun h=>absurd h (by omega)) (fun h=>absurd h (by omega)) hn6
  ·obtain⟨rfl,rfl,hnum⟩:=aloneN (by omega) hm;exact num_back (by omega) h (fun e=>absurd e h1) (fun _=>can_num (by omega) h hc) (fun _=>hnum) hn6
 ·obtain⟨rfl,rfl,htx⟩:=aloneT (by omega) hm;have hpl:plainV c (tb t)=.mk k 0 t []:=by
   unfold plainV;rw[hkof,if_neg (by omega),if_neg (by omega),if_neg (by omega),if_pos (by omega),sb_tb]
  by_cases h19:k < 19
  ·obtain⟨h0,hlg⟩:=hc1 h19;have hwid:=text_wid (by omega) h htx;have hw0:wid c≠0:=code_text (by omega) h;have hdat:dat c (.mk k 0 t [])=tb t:=by simp only[dat,dlay];rw[if_neg hw0,if_neg h15,if_pos h19]
   exact⟨tb t,fun X=>by rw[hdat];exact data_fix h0 (by rw[tb_length,hwid];exact hlg),hpl⟩
  ·obtain⟨hsw,_⟩:=hc2 (by omega);have hcl:=code_long (by omega) h;have hw0:wid c≠0:=by rcases hcl with ⟨e,_⟩ | ⟨e,_⟩<;>omega
   have hdat:dat c (.mk k 0 t [])=be (tb t).length (sw c)++tb t:=by simp only[dat,dlay];rw[if_neg hw0,if_neg h15,if_neg h19,if_pos (by omega),tb_length,hsw]
   have hsz:(tb t).length < 256 ^ sw c:=by
    rw[tb_length,hsw];rcases hcl with ⟨e,rfl⟩ | ⟨e,rfl⟩
    ·rw[e];have hc2:=of_decide_eq_true ((can_short k 0 t []).symm.trans hc);omega
    ·rw[e];simp only[bulk,bulkL] at hb;omega
   exact⟨tb t,fun X=>by rw[hdat];exact data_var (by omega) (by rcases hcl with ⟨e,_⟩ | ⟨e,_⟩<;>omega) hsz,hpl⟩
theorem name_back {x:V}(hg:Enc.Good x)(hn:nameB x.kind=true)(Z:List Nat):nameD (lay (plan x)++Z)=.ok (x,Z):=by
 obtain⟨k,n,t,ks⟩:=x;obtain⟨hk,rfl⟩:=name_leaf hg.1 hn;obtain⟨f,hf,hall⟩:=pick_all (k:=k) (by omega) (by omega) [rawv (.mk k n t [])];simp only[List.all_cons,List.all_nil,Bool.and_true] at hall;obtain⟨D,h1,h2⟩:=leaf_back hg (by omega) hf hall;rw[lay_core (by omega)];generalize pick (chs k) [rawv (.mk k n t [])]=c at hf hall h1 h2;have hkc:=(code_of (by omega) hf).1;simp only[List.cons_append,nameD];rw[if_pos (by rw[hkc];exact hk),h1 Z];simp only;rw[h2]
theorem head_names:∀ (l:List V) (N:Nat) (Y:List Nat) (c:Nat),GoodL l→(∀ x∈l,nameB x.kind=true)→c≠0→kof c≠0→(layN (planL l)++c::Y).length < N→headN N (layN (planL l)++c::Y)=.ok (l,c,Y)
 | [],0,_,_,_,_,_,_,h=>absurd h (Nat.not_lt_zero _)
 | [],N+1,Y,c,_,_,h0,hk,_=>by
  simp only[planL,layN,List.nil_append];rw[headN,if_neg h0,if_neg hk]
 | x::l,0,_,_,_,_,_,_,h=>absurd h (Nat.not_lt_zero _)
 | x::l,N+1,Y,c,hg,hn,h0,hk,h=>by
  obtain⟨hgx,hgl⟩:=hg.cons;simp only[planL,layN,List.cons_append,List.append_assoc,List.length_cons,List.length_append] at h ⊢;have hxp:0 < (lay (plan x)).length∨True:=.inr trivial;rw[headN,if_pos rfl,name_back hgx (hn x (by simp))];simp only;rw[head_names l N Y c hgl (fun y hy=>hn y (by simp[hy])) h0 hk (by simp only[List.length_append,List.length_cons];omega)]
theorem head_back {v:V}(hg:Enc.Good v){c:Nat}(h0:c≠0)(hk:kof c≠0)(Y:List Nat):headD (layN (planL (called v))++c::Y)=.ok (called v,c,Y):=
 head_names _ _ _ _ hg.called (fun x hx=>((called_spec _ v (Nat.le_refl _) hg.1).1 x hx).2) h0 hk (Nat.lt_succ_self _)
def BackD (N:Nat):Prop:=∀ (c:Nat) (f:Enc.Can) (v:V),bulk v≤N→Enc.Good v→depth v≤16→v.kind≠25→(c,f)∈chs v.kind→can f (rawv v)=true →
 ∃ D,(∀ X,dataD c (dat c v++X)=some (D,X))∧∀ (F it:Nat) (ns:List V),D.length < F→it+items v+2 * ns.length≤1024→toldN F it ns c D=some (calledV ns v,it+items v+2 * ns.length)
def BackI (N:Nat):Prop:=∀ (v:V) (X:List Nat) (F it:Nat),bulk v≤N→Enc.Good v→depth v≤16→(lay (plan v)).length≤F→it+items v≤1024→valD (toldN F) it (lay (plan v)++X)=.ok (v,it+items v,X)
theorem code_pick {v:V}(hm:mayB v=true):∃ f,(kcode [v],f)∈chs (core v).kind∧can f (rawv (core v))=true∧kcode [v]≠0∧kof (kcode [v])≠0∧(core v).kind≤24:=by
 have hck:=core_kind v hm;obtain⟨f,hf,hall⟩:=pick_all hck.1 hck.2 [rawv (core v)];rw[←kcode_one hm] at hf;simp only[List.all_cons,List.all_nil,Bool.and_true] at hall;have h1:=(code_of hck.2 hf).1;have h2:kof (kcode [v])≠0:=by rw[h1];omega
 exact⟨f,hf,hall,fun e=>h2 (by rw[e];rfl),h2,hck.2⟩
theorem backI_step {N:Nat}(h:BackD N):BackI N:=by
 intro v X F it hN hg hd hF hit;obtain⟨f,hf,hc,h0,hk,_⟩:=code_pick hg.1;have hcb:=core_bulk v hg.1;have hci:=called_items hg.1;have hcd:=called_depth hg.1;obtain⟨D,h1,h2⟩:=h (kcode [v]) f (core v) (by omega) hg.core (by omega) (core_ne v hg.1) hf hc;have hdl:=data_len (h1 []);rw[lay_split hg.1,List.append_nil] at *;simp only[List.length_append,List.length_cons] at hF;rw[List.append_assoc,List.cons_append];unfold valD;rw[head_back hg h0 hk];simp only;rw[h1 X];simp only;have hcp:=depth_pos (core v);rw[List.take_of_length_le (by omega),h2 F it (called v) (by simp at hdl;omega) (by omega),called_whole hg.1,hci];simp only[Nat.add_assoc]
theorem loop_back {N F:Nat}(h:BackI N):∀ (l:List V) (it:Nat),bulkL l≤N→GoodL l→depthL l≤16→(layK (planL l)).length≤F→it+itemsL l≤1024→loopN (stepV (toldN F)) l.length it (layK (planL l))=some (l,it+itemsL l,[])
 | [],it,_,_,_,_,_=>by simp[planL,layK,loopN,itemsL]
 | v::l,it,hN,hg,hd,hF,hit=>by
  obtain⟨hgv,hgl⟩:=hg.cons;simp only[bulkL] at hN;simp only[depthL] at hd;simp only[planL,layK,List.length_append] at hF ⊢;simp only[itemsL] at hit ⊢;rw[List.length_cons,loopN,step_val,h v _ F it (by omega) hgv (by omega) (by omega) (by omega)];simp only;rw[loop_back h l (it+items v) (by omega) hgl (by omega) (by omega) (by omega)];simp only[Nat.add_assoc]
theorem loopA_back {N F c k:Nat}{f:Enc.Can}{ns:List V}(h:BackD N)(hcf:(c,f)∈chs k):∀ (l:List V) (it:Nat),bulkL l≤N→GoodL l→depthL l≤16→(∀ e∈l,(core e).kind=k∧can f (plan e)=true∧called e=ns)→(datL c l).length < F→it+itemsL l≤1024→loopN (stepA (toldN F) ns c) l.length it (datL c l)=some (l,it+itemsL l,[])
 | [],it,_,_,_,_,_,_=>by simp[datL,loopN,itemsL]
 | v::l,it,hN,hg,hd,he,hF,hit=>by
  obtain⟨hgv,hgl⟩:=hg.cons;obtain⟨e1,e2,e3⟩:=he v (by simp);simp only[bulkL] at hN;simp only[depthL] at hd;simp only[datL,List.length_append] at hF ⊢;simp only[itemsL] at hit ⊢;have hcb:=core_bulk v hgv.1;have hci:=called_items hgv.1;have hcd:=called_depth hgv.1;obtain⟨D,h1,h2⟩:=h c f (core v) (by omega) hgv.core (by omega) (core_ne v hgv.1) (by rw[e1];exact hcf) (by rw[←can_core f v hgv.1];exact e2);have hdl:=data_len (h1 []);rw[List.append_nil] at hdl;have hw:calledV ns (core v)=v:=by rw[←e3];exact called_whole hgv.1
  rw[e3] at hci;have hst:stepA (toldN F) ns c it (dat c (core v)++datL c l)=some (v,it+items v,datL c l):=by
   unfold stepA;rw[h1];simp only;rw[h2 F it ns (by simp at hdl;omega) (by omega),hw,hci];simp only[Nat.add_assoc]
  rw[List.length_cons,loopN,hst];simp only;rw[loopA_back h hcf l (it+items v) (by omega) hgl (by omega) (fun e hx=>he e (by simp[hx])) (by omega) (by omega)];simp only[Nat.add_assoc]
theorem kids_flat_back {tl:Nat→List V→Nat→List Nat→Option (V×Nat)}{c it it' n w:Nat}{L:List Nat}{vs:List V}(hw:sw c=w)(h8:w≤8)(hn:n < 256 ^ w)(hn1:n≤1024)(hk:kof c≠24)(hl:loopN (stepV tl) n it L=some (vs,it',[])):kidsD tl c it (be n w++L)=some (vs,it'):=by
 subst hw;have hbl:=be_length n (sw c);have ht:(be n (sw c)++L).take (sw c)=be n (sw c):=by rw[List.take_append_of_le_length (by omega),List.take_of_length_le (by omega)]
 have hd:(be n (sw c)++L).drop (sw c)=L:=by rw[List.drop_append_of_le_length (by omega),List.drop_of_length_le (by omega),List.nil_append]
 unfold kidsD;rw[if_neg (by simp only[List.length_append];omega),ht,hd,tn_be _ _ h8,Nat.mod_eq_of_lt hn,if_neg (by omega),if_neg hk,hl]
theorem kids_array_back {tl:Nat→List V→Nat→List Nat→Option (V×Nat)}{c c' it it' n w:Nat}{L r:List Nat}{ns vs:List V}(hw:sw c=w)(h8:w≤8)(hn:n < 256 ^ w)(hn1:n≤1024)(hk:kof c=24)(hh:headD L=.ok (ns,c',r))(hl:loopN (stepA tl (ns.take 16) c') n it r=some (vs,it',[])):kidsD tl c it (be n w++L)=some (vs,it'):=by
 subst hw;have hbl:=be_length n (sw c);have ht:(be n (sw c)++L).take (sw c)=be n (sw c):=by rw[List.take_append_of_le_length (by omega),List.take_of_length_le (by omega)]
 have hd:(be n (sw c)++L).drop (sw c)=L:=by rw[List.drop_append_of_le_length (by omega),List.drop_of_length_le (by omega),List.nil_append]
 unfold kidsD;rw[if_neg (by simp only[List.length_append];omega),ht,hd,tn_be _ _ h8,Nat.mod_eq_of_lt hn,if_neg (by omega),if_pos hk,hh];simp only;rw[hl]
theorem backD_step {N:Nat}(hI:∀ M,M < N→BackI M)(hD:∀ M,M < N→BackD M):BackD N:=by
 intro c f v hN hg hd hk25 hcf hc;obtain⟨k,n,t,ks⟩:=v;simp only[V.kind] at hk25 hcf;have hkk:1≤k∧k≤24:=by
  have:=core_kind _ hg.1
  rwa [core_not hk25] at this
 obtain⟨hkof,_,hc1,hc2,hw8⟩:=code_of hkk.2 hcf;by_cases h22:k≤21
 ·obtain⟨D,h1,h2⟩:=leaf_back hg ⟨hkk.1,h22⟩ hcf hc;refine⟨D,h1,fun F it ns hF hit=>?_⟩;obtain⟨F,rfl⟩:∃ F',F=F'+1:=⟨F - 1,by omega⟩;have hks:ks=[]:=by
   have:=plain_kids c D;rw[h2] at this;exact this
  subst hks;have hi:items (.mk k n t [])=1:=by simp[items,itemsL]
  rw[hi] at hit ⊢;rw[told_succ,if_neg (by omega)];unfold aloneD;rw[if_pos (by rw[hkof];omega),h2]
 ·obtain⟨rfl,rfl⟩:=aloneK (by omega) hg.1;obtain⟨hsw,hlg⟩:=hc2 (by omega);have hgk:=hg.kids;have hlen:=ins_len hg;have hre:=re_bound hg;have hbb:=hg.2.2;have hNk:bulkL ks < N:=by simp only[bulk] at hN;have:(ByteArray.mk #[]).size=0:=rfl;omega
  simp only[bulk] at hbb;simp only[depth] at hd;have hki:∀ it ns,it+items (.mk k 0 ⟨#[]⟩ ks)+2 * ns.length=(it+1+2 * (ns:List V).length)+itemsL ks:=fun it ns=>by simp only[items];omega
  have hfin:∀ D:List Nat,(∀ F it,D.length≤F→it+itemsL ks≤1024→kidsD (toldN F) c it D=some (ks,it+itemsL ks)) →
    ∀ (F it:Nat) (ns:List V),D.length < F→it+items (.mk k 0 ⟨#[]⟩ ks)+2 * ns.length≤1024→toldN F it ns c D=some (calledV ns (.mk k 0 ⟨#[]⟩ ks),it+items (.mk k 0 ⟨#[]⟩ ks)+2 * ns.length):=by
   intro D hK F it ns hF hit;obtain⟨F,rfl⟩:∃ F',F=F'+1:=⟨F - 1,by omega⟩;rw[hki] at hit ⊢;rw[told_succ,if_neg (by omega)];unfold aloneD;rw[if_neg (by rw[hkof];omega),hK F _ (by omega) hit,hkof]
  rcases code_kids (by omega) hcf with ⟨hw,rfl,rfl⟩ | hrest
  ·have hks:ks=[]:=by
    exact List.eq_nil_of_length_eq_zero (of_decide_eq_true ((can_none 22 0 ⟨#[]⟩ ks).symm.trans hc))
   subst hks;have hdat:dat c (.mk 22 0 ⟨#[]⟩ [])=[]:=by simp only[dat,dlay];rw[if_pos hw]
   refine⟨[],fun X=>by rw[hdat];exact data_fix (by omega) (by simpa using hlg),hfin [] fun F it _ _=>?_⟩;have:=kids_flat_back (tl:=toldN F) (c:=c) (it:=it) (n:=0) (w:=0) (L:=[]) (vs:=[]) (it':=it) (by omega) (by omega) (by simp) (by omega) (by omega) (by simp[loopN])
   simpa [be,itemsL] using this
  ·obtain⟨W,hW,hW8,hW0,hsz,hnum⟩:∃ W,wid c=W∧W≤8∧W≠0∧W+longK (kp k ks) < 256 ^ W∧(ks.length≤1024→ks.length < 256 ^ W):=by
    rcases hrest with ⟨e,rfl⟩ | ⟨e,rfl⟩
    ·have hc2:=(can_small k 0 ⟨#[]⟩ ks).symm.trans hc;simp only[Bool.and_eq_true,decide_eq_true_eq] at hc2;exact⟨1,e,by omega,by omega,by omega,fun _=>by omega⟩
    ·exact⟨4,e,by omega,by omega,by omega,fun h=>by omega⟩
   have hdat:dat c (.mk k 0 ⟨#[]⟩ ks)=be (be ks.length W++layK (kp k ks)).length (sw c)++(be ks.length W++layK (kp k ks)):=by
    simp only[dat,dlay];rw[if_neg (by omega),if_neg (by omega),if_neg (by omega),if_neg (by omega),hsw,hW,List.length_append,be_length,hlen,List.append_assoc]
   refine⟨be ks.length W++layK (kp k ks),fun X=>by rw[hdat];exact data_var (by omega) (by omega) (by rw[List.length_append,be_length,hsw,hW,←hlen];exact hsz),hfin _ fun F it hF hit=>?_⟩;rw[List.length_append,be_length] at hF;have hll:=length_le ks;by_cases h24:k=24
   ·subst h24;simp only[kp,if_true] at hF ⊢;cases ks with
    | nil=>exact kids_array_back (by omega) hW8 (hnum (by simp)) (by simp) hkof (show headD (layK (alikeP (planL [])))=.ok ([],64,[]) by rfl) (by simp[loopN,itemsL])
    | cons a r=>
     obtain⟨f',hf',hck1,hck2,hall⟩:=arr_code hg.1;have hga:=hgk.cons.1;have hcd:=called_depth hga.1;have hcp:=depth_pos (core a);have hkc:=(code_of hck2 hf').1;rw[layK_alike a r hgk.1] at hF ⊢;have hda:depth a≤16:=by simp only[depthL] at hd;omega
     refine kids_array_back (by omega) hW8 (hnum (by omega)) (by omega) hkof (head_back hga (fun e=>by rw[e] at hkc;have:kof 0=0:=rfl;omega) (by omega) _) ?_;rw[List.take_of_length_le (by omega)];simp only[List.length_append,List.length_cons] at hF;exact loopA_back (hD _ hNk) hf' (a::r) it (Nat.le_refl _) hgk (by omega) hall (by omega) hit
   ·simp only[kp,if_neg h24] at hF ⊢;exact kids_flat_back (by omega) hW8 (hnum (by omega)) (by omega) (by omega) (loop_back (hI _ hNk) ks it (Nat.le_refl _) hgk (by omega) (by omega) hit)
theorem back_all (N:Nat):BackI N∧BackD N:=by
 induction N using Nat.strongRecOn with
 | ind N ih=>
  have h:=backD_step (fun M hM=>(ih M hM).1) (fun M hM=>(ih M hM).2);exact⟨backI_step h,h⟩
theorem val_back {v:V}(hg:Enc.Good v)(hok:okB v=true)(X:List Nat):valD (toldN (lay (plan v)++X).length) 0 (lay (plan v)++X)=.ok (v,items v,X):=by
 unfold okB at hok;simp only[Bool.and_eq_true,decide_eq_true_eq] at hok;have:=(back_all (bulk v)).1 v X (lay (plan v)++X).length 0 (Nat.le_refl _) hg hok.1.2 (by rw[List.length_append];omega) (by omega)
 rwa [Nat.zero_add] at this
theorem dec_lay {v:V}(hg:Enc.Good v)(hok:okB v=true)(X:List Nat):decD (lay (plan v)++X)=(v,(lay (plan v)).length,0):=by
 rw[dec_ok (val_back hg hok X) hok];simp only[Prod.mk.injEq,and_true,true_and,List.length_append];omega
end Go.Proofs.YtcilmmdmkpnppaaGreatDoor.Dec
end
section
namespace Go.Proofs.YtcilmmdmkpnppaaGreatDoor.Fl
set_option maxRecDepth 100000
open Utf Val V
def b1 (ls:List V)(i:Int)(kind:Nat)(must:Bool):Bool:=match ask ls i with
 | none=>must
 | some v=>decide (v.kind≠kind)
def bv (ls:List V)(i:Int)(L:List Nat):Bool:=match ask ls i with
 | none=>false
 | some v=>!fitsB L v.kind
theorem oneR_snd {α:Type}(ls:List V)(i:Int)(kind:Nat)(must sp:Bool)(z:α)(f:V→α):(oneR ls i kind must sp z f).2=(sp||b1 ls i kind must):=by
 unfold b1;cases ha:ask ls i with
 | none=>rw[oneR_none ha]
 | some v=>
  by_cases hk:v.kind=kind
  ·rw[oneR_yes ha hk];simp[hk]
  ·rw[oneR_no ha hk];simp[hk]
theorem oneR_fst {α:Type}(ls:List V)(i:Int)(kind:Nat)(must sp:Bool)(z:α)(f:V→α):(oneR ls i kind must sp z f).1=(oneR ls i kind false false z f).1:=by
 cases ha:ask ls i with
 | none=>rw[oneR_none ha,oneR_none ha]
 | some v=>
  by_cases hk:v.kind=kind
  ·rw[oneR_yes ha hk,oneR_yes ha hk]
  ·rw[oneR_no ha hk,oneR_no ha hk]
theorem valR_snd (ls:List V)(i:Int)(L:List Nat)(sp:Bool):(valR ls i L sp).2=(sp||bv ls i L):=by
 unfold bv;cases ha:ask ls i with
 | none=>rw[valR_none ha];simp
 | some v=>
  cases hk:fitsB L v.kind with
  | true=>rw[valR_yes ha hk];simp[hk]
  | false=>rw[valR_no ha hk];simp[hk]
theorem bv_one (ls:List V)(i:Int)(k:Nat):bv ls i [k]=b1 ls i k false:=by
 unfold bv b1;cases ask ls i with
 | none=>rfl
 | some v=>by_cases h:v.kind=k<;>simp[fitsB,h]
theorem b1_none {ls:List V}{i:Int}{kind:Nat}{must:Bool}(h:ask ls i=none):b1 ls i kind must=must:=by unfold b1;rw[h]
theorem b1_ok {ls:List V}{i:Int}{kind n:Nat}{t:ByteArray}{ks:List V}{must:Bool}(h:ask ls i=some (.mk kind n t ks)):b1 ls i kind must=false:=by unfold b1;rw[h];simp[V.kind]
theorem bv_none {ls:List V}{i:Int}{L:List Nat}(h:ask ls i=none):bv ls i L=false:=by unfold bv;rw[h]
theorem cutN_nulls (ls:List V):∀ (n j:Nat),cutN ls n≤j→j < n→nulAt ls j=true
 | 0,_,_,h=>by omega
 | n+1,j,hc,hj=>by
  unfold cutN at hc;by_cases h:nulAt ls n=true
  ·rw[if_pos h] at hc;by_cases he:j=n
   ·rw[he];exact h
   ·exact cutN_nulls ls n j hc (by omega)
  ·rw[if_neg h] at hc;omega
theorem ask_trim (ls:List V)(i:Int):ask (trim ls) i=ask ls i:=by
 unfold ask;by_cases hi:0≤i
 ·rw[if_pos hi,if_pos hi];obtain⟨j,hj⟩:∃ j,i.toNat=j:=⟨_,rfl⟩;rw[hj];unfold trim;by_cases h:j < cutN ls ls.length
  ·rw[List.getElem?_take_of_lt h]
  ·rw[List.getElem?_eq_none (l:=ls.take _) (by simp only[List.length_take];omega)];by_cases h2:j < ls.length
   ·have hn:=cutN_nulls ls ls.length j (by omega) h2;unfold nulAt at hn;rw[List.getElem?_eq_getElem h2] at hn ⊢;have hk:=of_decide_eq_true hn;have hb:((ls[j].kind != 1)=true)↔False:=by simp[hk]
    show none=if (ls[j].kind != 1)=true then some ls[j] else none
    rw[if_neg (fun h=>hb.1 h)]
   ·rw[List.getElem?_eq_none (by omega)]
 ·rw[if_neg hi,if_neg hi]
theorem trim_len (ls:List V):(trim ls).length≤ls.length:=by unfold trim;simp only[List.length_take];omega
theorem oneR_trim {α:Type}(ls:List V)(i:Int)(kind:Nat)(must sp:Bool)(z:α)(f:V→α):oneR (trim ls) i kind must sp z f=oneR ls i kind must sp z f:=by unfold oneR;rw[ask_trim]
theorem b1_trim (ls:List V)(i:Int)(kind:Nat)(must:Bool):b1 (trim ls) i kind must=b1 ls i kind must:=by unfold b1;rw[ask_trim]
end Go.Proofs.YtcilmmdmkpnppaaGreatDoor.Fl
namespace Go.Proofs.YtcilmmdmkpnppaaGreatDoor.Me
set_option maxRecDepth 100000
open Utf Val Fl Oc Dec V
open Enc hiding nullV
structure M where
 p:Nat
 ttl:Nat
 n:Nat
 id:ByteArray
 body:List Nat
def m0:M:=⟨4,0,0,⟨#[]⟩,[]⟩
noncomputable def mayM (m:M):Bool:=decide (m.p≤9)&&(decide (m.id.size≤64)&&(textB 20 m.id&&decide (m.body.length≤2048)))
def wantV (b:Bool)(v:V):V:=if b=true then nullV else v
def mname:Nat→ByteArray
 | 0=>⟨#[97,109,113,112,58,104,101,97,100,101,114,58,108,105,115,116]⟩
 | 1=>⟨#[97,109,113,112,58,100,101,108,105,118,101,114,121,45,97,110,110,111,116,97,116,105,111,110,115,58,109,97,112]⟩
 | 2=>⟨#[97,109,113,112,58,109,101,115,115,97,103,101,45,97,110,110,111,116,97,116,105,111,110,115,58,109,97,112]⟩
 | 3=>⟨#[97,109,113,112,58,112,114,111,112,101,114,116,105,101,115,58,108,105,115,116]⟩
 | 4=>⟨#[97,109,113,112,58,97,112,112,108,105,99,97,116,105,111,110,45,112,114,111,112,101,114,116,105,101,115,58,109,97,112]⟩
 | 5=>⟨#[97,109,113,112,58,100,97,116,97,58,98,105,110,97,114,121]⟩
 | 6=>⟨#[97,109,113,112,58,97,109,113,112,45,115,101,113,117,101,110,99,101,58,108,105,115,116]⟩
 | 7=>⟨#[97,109,113,112,58,97,109,113,112,45,118,97,108,117,101,58,42]⟩
 | _=>⟨#[97,109,113,112,58,102,111,111,116,101,114,58,109,97,112]⟩
def hdL (m:M):List V:=[nullV,wantV (m.p==4) (.mk 3 m.p ⟨#[]⟩ []),wantV (m.ttl==0) (.mk 5 m.ttl ⟨#[]⟩ []),nullV,wantV (m.n==0) (.mk 5 m.n ⟨#[]⟩ [])]
def hdV (m:M):V:=.mk 25 0 ⟨#[]⟩ (putL 112 (trim (hdL m)))
def prV (id:ByteArray):V:=.mk 25 0 ⟨#[]⟩ (putL 115 [.mk 20 0 id []])
def daV (b:List Nat):V:=.mk 25 0 ⟨#[]⟩ [.mk 6 117 ⟨#[]⟩ [],.mk 19 0 (sb b) []]
def hasH (m:M):Bool:=!(m.p==4)||(!(m.ttl==0) || !(m.n==0))
def secM (m:M):List V:=(if hasH m=true then [hdV m] else [])++((if m.id.size=0 then [] else [prV m.id])++[daV m.body])
def layL:List V→List Nat
 | []=>[]
 | v::l=>lay (plan v)++layL l
noncomputable def putM (m:M):Option (List Nat):=if mayM m=true then some (layL (secM m)) else none
def named (d:V)(i:Nat):Bool:=(decide (d.kind=6)&&decide (d.num=112+i))||(decide (d.kind=21)&&decide (d.text=mname i))
def sectR (v:V):Option (Nat×V):=if v.kind=25 then (match v.kids with
  | [d,x]=>((List.range 9).find? (named d)).map fun i=>(i,x)
  | _=>none) else none
def idsL:List Nat:=[6,15,19,20]
def hdB (ls:List V):Bool:=b1 ls 0 2 false||(b1 ls 1 3 false||(b1 ls 2 5 false||(b1 ls 3 2 false||(b1 ls 4 5 false||(decide (5 < ls.length)||decide (9 < (oneR ls 1 3 false false 4 V.num).1))))))
def idR (ls:List V):ByteArray:=if (valR ls 0 idsL false).1.kind=20 then (valR ls 0 idsL false).1.text else ⟨#[]⟩
def prB (ls:List V):Bool:=bv ls 0 idsL||(b1 ls 1 19 false||(b1 ls 2 20 false||(b1 ls 3 20 false||(b1 ls 4 20 false||(bv ls 5 idsL||(b1 ls 6 21 false||(b1 ls 7 21 false||(b1 ls 8 14 false||(b1 ls 9 14 false||(b1 ls 10 20 false||(b1 ls 11 5 false||(b1 ls 12 20 false||(decide (13 < ls.length)||decide (64 < (idR ls).size))))))))))))))
structure St where
 m:M
 last:Nat
 body:Bool
def s0:St:=⟨m0,0,false⟩
noncomputable def stepM (s:St)(v:V):Option St:=match sectR v with
 | none=>none
 | some (i,x)=>
  if 112+i < s.last∨(112+i=s.last∧i≠5) then none
  else if i=0 then (match newR v 112 (mname 0) with
   | none=>none
   | some ls=>if hdB ls=true then none else some ⟨{ s.m with p:=(oneR ls 1 3 false false 4 V.num).1,ttl:=(oneR ls 2 5 false false 0 V.num).1,n:=(oneR ls 4 5 false false 0 V.num).1 },112,s.body⟩)
  else if i=3 then (match newR v 115 (mname 3) with
   | none=>none
   | some ls=>if prB ls=true then none else some ⟨{ s.m with id:=idR ls },115,s.body⟩)
  else if i=5 then (if x.kind=19 then some ⟨{ s.m with body:=s.m.body++tb x.text },117,true⟩ else none)
  else if i=6∨i=7 then none
  else if x.kind=23 then some ⟨s.m,112+i,s.body⟩ else none
noncomputable def foldM:St→List V→Option St
 | s,[]=>some s
 | s,v::l=>match stepM s v with
  | none=>none
  | some s'=>foldM s' l
noncomputable def getN:Nat→St→List Nat→Option St
 | _,s,[]=>some s
 | 0,_,_::_=>none
 | N+1,s,x::b=>if (decD (x::b)).2.2=0 then (match stepM s (decD (x::b)).1 with
   | none=>none
   | some s'=>getN N s' ((x::b).drop (decD (x::b)).2.1)) else none
noncomputable def finM (s:St):Option M:=if s.body=true∧s.m.body.length≤2048 then some s.m else none
noncomputable def getM (b:List Nat):Option M:=match getN b.length s0 b with
 | none=>none
 | some s=>finM s
theorem getN_nil (N:Nat)(s:St):getN N s []=some s:=by cases N<;>rfl
theorem getN_cons (N:Nat)(s:St){b:List Nat}(hb:b≠[]):getN (N+1) s b=if (decD b).2.2=0 then (match stepM s (decD b).1 with
  | none=>none
  | some s'=>getN N s' (b.drop (decD b).2.1)) else none:=by
 cases b with
 | nil=>exact absurd rfl hb
 | cons x b=>rfl
theorem dec_adv {b:List Nat}(h:(decD b).2.2=0):1≤(decD b).2.1∧(decD b).2.1≤b.length:=by
 rcases hd:decD b with ⟨v,n,e⟩
 rw[hd] at h;simp only at h;subst h;have:=own_ok hd;exact⟨this.1,this.2.1⟩
theorem getN_fuel:∀ (N N':Nat) (s:St) (b:List Nat),b.length≤N→b.length≤N'→getN N s b=getN N' s b
 | N,N',s,[],_,_=>by rw[getN_nil,getN_nil]
 | 0,_,_,_::_,h,_=>by simp at h
 | _+1,0,_,_::_,_,h=>by simp at h
 | N+1,N'+1,s,x::b,h,h'=>by
  rw[getN_cons N s (by simp),getN_cons N' s (by simp)];by_cases hd:(decD (x::b)).2.2=0
  ·rw[if_pos hd,if_pos hd];have:=dec_adv hd;cases stepM s (decD (x::b)).1 with
   | none=>rfl
   | some s'=>exact getN_fuel N N' s' _ (by simp only[List.length_drop,List.length_cons] at *;omega) (by simp only[List.length_drop,List.length_cons] at *;omega)
  ·rw[if_neg hd,if_neg hd]
noncomputable def getS (s:St)(b:List Nat):Option St:=getN b.length s b
theorem getS_step {s:St}{v:V}(hg:Enc.Good v)(hok:okB v=true)(X:List Nat):getS s (lay (plan v)++X)=(match stepM s v with
  | none=>none
  | some s'=>getS s' X):=by
 have hd:=dec_lay hg hok X;have hn:=(own_ok hd).1;have hne:lay (plan v)++X≠[]:=fun e=>by have:=congrArg List.length e;simp only[List.length_append,List.length_nil] at this;omega
 unfold getS;rw[getN_fuel _ ((lay (plan v)++X).length+1) s _ (Nat.le_refl _) (by omega),getN_cons _ _ hne,hd];simp only[if_true];cases stepM s v with
 | none=>rfl
 | some s'=>
  simp only[List.drop_left];exact getN_fuel _ _ _ _ (by simp only[List.length_append];omega) (Nat.le_refl _)
theorem getS_lay {l:List V}(h:∀ v∈l,Enc.Good v∧okB v=true)(s:St):getS s (layL l)=foldM s l:=by
 induction l generalizing s with
 | nil=>rfl
 | cons v l ih=>
  show getS s (lay (plan v)++layL l)=_
  rw[getS_step (h v (by simp)).1 (h v (by simp)).2];unfold foldM;cases stepM s v with
  | none=>rfl
  | some s'=>exact ih (fun x hx=>h x (List.mem_cons_of_mem _ hx)) s'
theorem getM_lay {l:List V}(h:∀ v∈l,Enc.Good v∧okB v=true):getM (layL l)=(match foldM s0 l with
  | none=>none
  | some s=>finM s):=by
 show (match getS s0 (layL l) with
  | none=>none
  | some s=>finM s)=_
 rw[getS_lay h]
end Go.Proofs.YtcilmmdmkpnppaaGreatDoor.Me
end
section
namespace Go.Proofs.YtcilmmdmkpnppaaGreatDoor.Me
set_option maxRecDepth 100000
open Utf Val Fl Oc Dec V
open Enc hiding nullV
theorem sz0:(⟨#[]⟩:ByteArray).size=0:=rfl
theorem tb_sb {l:List Nat}(h:∀ x∈l,x < 256):tb (sb l)=l:=by
 have e:tb (sb l)=l.map fun x=>(UInt8.ofNat x).toNat:=by simp[tb,sb]
 rw[e];exact(List.map_congr_left fun x hx=>by rw[UInt8.toNat_ofNat'];exact Nat.mod_eq_of_lt (h x hx)).trans (List.map_id' _)
theorem sb_size (l:List Nat):(sb l).size=l.length:=by simp[sb,ByteArray.size]
theorem may_u8 {n:Nat}(h:n < 256):mayB (.mk 3 n ⟨#[]⟩ [])=true:=by simp[mayB,mayL,aloneOk,emp0,numB,kidsOk,h]
theorem may_str {t:ByteArray}(h:textB 20 t=true):mayB (.mk 20 0 t [])=true:=by
 have h1:aloneOk 20 0 t 0=true:=by
  unfold aloneOk;rw[if_neg (by omega),if_neg (by omega),if_pos (by omega),h];rfl
 simp[mayB,mayL,h1,kidsOk]
theorem may_bin (t:ByteArray):mayB (.mk 19 0 t [])=true:=by
 have h1:aloneOk 19 0 t 0=true:=by
  unfold aloneOk;rw[if_neg (by omega),if_neg (by omega),if_pos (by omega)];rfl
 simp[mayB,mayL,h1,kidsOk]
theorem str_may {n:Nat}{t:ByteArray}{ks:List V}(h:mayB (.mk 20 n t ks)=true):textB 20 t=true:=by
 have:=may_alone h;unfold aloneOk at this;rw[if_neg (by omega),if_neg (by omega),if_pos (by omega)] at this;simp only[Bool.and_eq_true] at this;exact this.2
theorem want_may {b:Bool}{v:V}(h:b=false→mayB v=true):mayB (wantV b v)=true:=by
 cases b with
 | true=>exact may_null
 | false=>exact h rfl
theorem want_size {b:Bool}{k n:Nat}:items (wantV b (.mk k n ⟨#[]⟩ []))=1∧depth (wantV b (.mk k n ⟨#[]⟩ []))=1∧bulk (wantV b (.mk k n ⟨#[]⟩ []))=1:=by
 cases b<;>exact⟨rfl,rfl,rfl⟩
theorem want_64 {b:Bool}{k n:Nat}(h:n < 18446744073709551616):Enc.n64 (wantV b (.mk k n ⟨#[]⟩ [])):=by
 cases b with
 | true=>exact⟨by omega,trivial⟩
 | false=>exact⟨h,trivial⟩
theorem n64L_tk:∀ (l:List V) (j:Nat),Enc.n64L l→Enc.n64L (l.take j)
 | [],_,h=>by simpa using h
 | _::_,0,_=>trivial
 | x::l,j+1,h=>⟨h.1,n64L_tk l j h.2⟩
theorem hdL_may {m:M}(hp:m.p < 256)(ht:m.ttl < 4294967296)(hn:m.n < 4294967296):mayL (hdL m)=true:=by
 simp only[hdL,mayL,may_null,want_may (fun _=>may_u8 hp),want_may (fun _=>may_u32 ht),want_may (fun _=>may_u32 hn),Bool.and_true]
theorem hdL_size (m:M):itemsL (hdL m)=5∧depthL (hdL m)=1∧bulkL (hdL m)=5:=by
 simp only[hdL,itemsL,depthL,bulkL,want_size.1,want_size.2.1,want_size.2.2];exact⟨rfl,rfl,rfl⟩
theorem hdL_64 {m:M}(hp:m.p < 256)(ht:m.ttl < 4294967296)(hn:m.n < 4294967296):Enc.n64L (hdL m):=
 ⟨⟨by omega,trivial⟩,want_64 (by omega),want_64 (by omega),⟨by omega,trivial⟩,want_64 (by omega),trivial⟩
theorem hd_ok {m:M}(hp:m.p < 256)(ht:m.ttl < 4294967296)(hn:m.n < 4294967296):okB (hdV m)=true:=by
 have h:=hdL_size m;refine fields_ok (may_ulong 112) rfl (by simp[items,itemsL]) (by simp[depth,depthL]) (mayL_tk (hdL_may hp ht hn) _) (Nat.le_trans (itemsL_take_le _ _) (by omega)) (Nat.le_trans (depthL_take_le _ _) (by omega))
theorem hd_good {m:M}(hp:m.p < 256)(ht:m.ttl < 4294967296)(hn:m.n < 4294967296):Enc.Good (hdV m):=by
 refine⟨may_of_ok (hd_ok hp ht hn),⟨by omega,⟨by omega,trivial⟩,⟨by omega,n64L_tk _ _ (hdL_64 hp ht hn)⟩,trivial⟩,?_⟩;have h:=hdL_size m;have h2:=bulk_take (hdL m) (cutN (hdL m) (hdL m).length);simp only[hdV,putL,bulk,bulkL,trim,sz0];omega
theorem pr_ok {id:ByteArray}(h:textB 20 id=true):okB (prV id)=true:=
 fields_ok (may_ulong 115) rfl (by simp[items,itemsL]) (by simp[depth,depthL]) (by simp[mayL,may_str h]) (by simp[items,itemsL]) (by simp[depth,depthL])
theorem pr_good {id:ByteArray}(h:textB 20 id=true)(hs:id.size≤64):Enc.Good (prV id):=by
 refine⟨may_of_ok (pr_ok h),⟨by omega,⟨by omega,trivial⟩,⟨by omega,⟨by omega,trivial⟩,trivial⟩,trivial⟩,?_⟩;simp only[prV,putL,bulk,bulkL,sz0];omega
theorem da_ok (b:List Nat):okB (daV b)=true:=by
 have hm:mayB (daV b)=true:=may_pair (may_ulong 117) rfl (may_bin _);unfold okB;rw[hm,decide_eq_true (by simp[daV,items,itemsL]),decide_eq_true (by simp[daV,depth,depthL])];rfl
theorem da_good {b:List Nat}(hs:b.length≤60000000):Enc.Good (daV b):=by
 refine⟨may_of_ok (da_ok b),⟨by omega,⟨by omega,trivial⟩,⟨by omega,trivial⟩,trivial⟩,?_⟩;simp only[daV,bulk,bulkL,sz0,sb_size];omega
theorem one_want {ls:List V}{j k n z:Nat}{b:Bool}(h:ls[j]? = some (wantV b (.mk k n ⟨#[]⟩ [])))(hk:k≠1)(hz:b=true→n=z):(oneR ls (j:Int) k false false z V.num).1=n∧b1 ls (j:Int) k false=false:=by
 cases b with
 | true=>
  have ha:=ask_null (j:=j) h;rw[oneR_none ha,b1_none ha];exact⟨(hz rfl).symm,rfl⟩
 | false=>
  have ha:=ask_there (j:=j) h hk;rw[oneR_yes (kind:=k) ha rfl,b1_ok ha];exact⟨rfl,rfl⟩
theorem hd_read (m:M)(hp:m.p≤9):hdB (trim (hdL m))=false∧(oneR (trim (hdL m)) 1 3 false false 4 V.num).1=m.p∧(oneR (trim (hdL m)) 2 5 false false 0 V.num).1=m.ttl∧(oneR (trim (hdL m)) 4 5 false false 0 V.num).1=m.n:=by
 have h0:Fl.ask (hdL m) 0=none:=ask_null (j:=0) rfl;have h3:Fl.ask (hdL m) 3=none:=ask_null (j:=3) rfl;obtain⟨e1,f1⟩:(oneR (hdL m) 1 3 false false 4 V.num).1=m.p∧b1 (hdL m) 1 3 false=false:=one_want (j:=1) (ls:=hdL m) (b:=m.p==4) rfl (by omega) (fun h=>by simpa using h);obtain⟨e2,f2⟩:(oneR (hdL m) 2 5 false false 0 V.num).1=m.ttl∧b1 (hdL m) 2 5 false=false:=one_want (j:=2) (ls:=hdL m) (b:=m.ttl==0) rfl (by omega) (fun h=>by simpa using h);obtain⟨e4,f4⟩:(oneR (hdL m) 4 5 false false 0 V.num).1=m.n∧b1 (hdL m) 4 5 false=false:=one_want (j:=4) (ls:=hdL m) (b:=m.n==0) rfl (by omega) (fun h=>by simpa using h);have hl:(trim (hdL m)).length≤5:=trim_len (hdL m);refine⟨?_,by rw[oneR_trim];exact e1,by rw[oneR_trim];exact e2,by rw[oneR_trim];exact e4⟩;unfold hdB;simp only[b1_trim,oneR_trim];rw[b1_none h0,f1,f2,b1_none h3,f4,e1,decide_eq_false (show ¬ 5 < (trim (hdL m)).length by omega),decide_eq_false (show ¬ 9 < m.p by omega)];rfl
theorem hd_new {m:M}(hp:m.p < 256)(ht:m.ttl < 4294967296)(hn:m.n < 4294967296):newR (hdV m) 112 (mname 0)=some (trim (hdL m)):=by
 have hok:=hd_ok hp ht hn;unfold hdV putL at hok ⊢;rw[newR_list hok,called_code,decide_eq_true rfl,if_pos rfl]
theorem pr_new {id:ByteArray}(h:textB 20 id=true):newR (prV id) 115 (mname 3)=some [.mk 20 0 id []]:=by
 have hok:=pr_ok h;unfold prV putL at hok ⊢;rw[newR_list hok,called_code,decide_eq_true rfl,if_pos rfl]
theorem pr_read {id:ByteArray}(hs:id.size≤64):prB [.mk 20 0 id []]=false∧idR [.mk 20 0 id []]=id:=by
 have h0:Fl.ask [.mk 20 0 id []] 0=some (.mk 20 0 id []):=ask_there (j:=0) rfl (by omega);have hf:∀ j:Nat,1≤j→Fl.ask [V.mk 20 0 id []] (j:Int)=none:=fun j hj=>ask_far (by simp;omega);have hv:valR [.mk 20 0 id []] 0 idsL false=(.mk 20 0 id [],false):=valR_yes h0 (show fitsB idsL 20=true by decide);have hi:idR [.mk 20 0 id []]=id:=by unfold idR;rw[hv];rfl
 refine⟨?_,hi⟩;have hb:bv [.mk 20 0 id []] 0 idsL=false:=by
  have:=valR_snd [.mk 20 0 id []] 0 idsL false;rw[hv] at this
  simpa using this.symm
 have g1:Fl.ask [V.mk 20 0 id []] 1=none:=hf 1 (by omega);have g2:Fl.ask [V.mk 20 0 id []] 2=none:=hf 2 (by omega);have g3:Fl.ask [V.mk 20 0 id []] 3=none:=hf 3 (by omega);have g4:Fl.ask [V.mk 20 0 id []] 4=none:=hf 4 (by omega);have g5:Fl.ask [V.mk 20 0 id []] 5=none:=hf 5 (by omega);have g6:Fl.ask [V.mk 20 0 id []] 6=none:=hf 6 (by omega);have g7:Fl.ask [V.mk 20 0 id []] 7=none:=hf 7 (by omega);have g8:Fl.ask [V.mk 20 0 id []] 8=none:=hf 8 (by omega);have g9:Fl.ask [V.mk 20 0 id []] 9=none:=hf 9 (by omega);have g10:Fl.ask [V.mk 20 0 id []] 10=none:=hf 10 (by omega);have g11:Fl.ask [V.mk 20 0 id []] 11=none:=hf 11 (by omega);have g12:Fl.ask [V.mk 20 0 id []] 12=none:=hf 12 (by omega);unfold prB;rw[hb,b1_none g1,b1_none g2,b1_none g3,b1_none g4,bv_none g5,b1_none g6,b1_none g7,b1_none g8,b1_none g9,b1_none g10,b1_none g11,b1_none g12,hi,decide_eq_false (show ¬ 64 < id.size by omega)];rfl
theorem step_0 {s:St}{v x:V}{ls:List V}(h:sectR v=some (0,x))(hl:s.last < 112)(hn:newR v 112 (mname 0)=some ls)(hb:hdB ls=false) :
  stepM s v=some ⟨{ s.m with p:=(oneR ls 1 3 false false 4 V.num).1,ttl:=(oneR ls 2 5 false false 0 V.num).1,n:=(oneR ls 4 5 false false 0 V.num).1 },112,s.body⟩:=by
 unfold stepM;rw[h];simp only;rw[if_neg (by omega),if_pos trivial,hn];simp only;rw[if_neg (by rw[hb];exact Bool.false_ne_true)]
theorem step_3 {s:St}{v x:V}{ls:List V}(h:sectR v=some (3,x))(hl:s.last < 115)(hn:newR v 115 (mname 3)=some ls)(hb:prB ls=false) :
  stepM s v=some ⟨{ s.m with id:=idR ls },115,s.body⟩:=by
 unfold stepM;rw[h];simp only;rw[if_neg (by omega),if_neg (by omega),if_pos trivial,hn];simp only;rw[if_neg (by rw[hb];exact Bool.false_ne_true)]
theorem step_5 {s:St}{v x:V}(h:sectR v=some (5,x))(hl:s.last≤117)(hx:x.kind=19):stepM s v=some ⟨{ s.m with body:=s.m.body++tb x.text },117,true⟩:=by
 unfold stepM;rw[h];simp only;rw[if_neg (by omega),if_neg (by omega),if_neg (by omega),if_pos trivial,if_pos hx]
theorem sect_hd (m:M):sectR (hdV m)=some (0,.mk 22 0 ⟨#[]⟩ (trim (hdL m))):=rfl
theorem sect_pr (id:ByteArray):sectR (prV id)=some (3,.mk 22 0 ⟨#[]⟩ [.mk 20 0 id []]):=rfl
theorem sect_da (b:List Nat):sectR (daV b)=some (5,.mk 19 0 (sb b) []):=rfl
theorem may_parts {m:M}(h:mayM m=true):m.p≤9∧m.id.size≤64∧textB 20 m.id=true∧m.body.length≤2048:=by
 unfold mayM at h;simp only[Bool.and_eq_true] at h;exact⟨of_decide_eq_true h.1,of_decide_eq_true h.2.1,h.2.2.1,of_decide_eq_true h.2.2.2⟩
theorem sec_good {m:M}(h:mayM m=true)(ht:m.ttl < 4294967296)(hn:m.n < 4294967296):∀ v∈secM m,Enc.Good v∧okB v=true:=by
 obtain⟨h1,h2,h3,h4⟩:=may_parts h;intro v hv;unfold secM at hv;rcases List.mem_append.1 hv with hv | hv
 ·cases hh:hasH m with
  | true=>rw[hh,if_pos rfl] at hv;rw[List.mem_singleton.1 hv];exact⟨hd_good (by omega) ht hn,hd_ok (by omega) ht hn⟩
  | false=>rw[hh,if_neg Bool.false_ne_true] at hv;cases hv
 ·rcases List.mem_append.1 hv with hv | hv
  ·by_cases hi:m.id.size=0
   ·rw[if_pos hi] at hv;cases hv
   ·rw[if_neg hi] at hv;rw[List.mem_singleton.1 hv];exact⟨pr_good h3 h2,pr_ok h3⟩
  ·rw[List.mem_singleton.1 hv];exact⟨da_good (by omega),da_ok _⟩
theorem fold_append (s:St)(a b:List V):foldM s (a++b)=(match foldM s a with
  | none=>none
  | some s'=>foldM s' b):=by
 induction a generalizing s with
 | nil=>rfl
 | cons v a ih=>
  show (match stepM s v with
   | none=>none
   | some s'=>foldM s' (a++b))=(match (match stepM s v with
   | none=>none
   | some s'=>foldM s' a) with
   | none=>none
   | some s'=>foldM s' b)
  cases stepM s v with
  | none=>rfl
  | some s'=>exact ih s'
theorem fold_one {s s':St}{v:V}(h:stepM s v=some s'):foldM s [v]=some s':=by
 show (match stepM s v with
   | none=>none
   | some s'=>foldM s' [])=_
 rw[h];rfl
theorem fold_sec {m:M}(h:mayM m=true)(ht:m.ttl < 4294967296)(hn:m.n < 4294967296)(hb:∀ x∈m.body,x < 256):foldM s0 (secM m)=some ⟨m,117,true⟩:=by
 obtain⟨h1,h2,h3,h4⟩:=may_parts h;have hH:∃ la,la < 115∧foldM s0 (if hasH m=true then [hdV m] else [])=some ⟨⟨m.p,m.ttl,m.n,⟨#[]⟩,[]⟩,la,false⟩:=by
  cases hh:hasH m with
  | true=>
   rw[if_pos rfl];obtain⟨r0,r1,r2,r3⟩:=hd_read m h1;refine⟨112,by omega,fold_one ?_⟩;rw[step_0 (sect_hd m) (by decide) (hd_new (by omega) ht hn) r0,r1,r2,r3];rfl
  | false=>
   rw[if_neg Bool.false_ne_true];unfold hasH at hh;simp at hh;refine⟨0,by omega,?_⟩;rw[hh.1,hh.2.1,hh.2.2];rfl
 obtain⟨la,hla,hH⟩:=hH;have hP:∃ lb,lb≤117∧foldM ⟨⟨m.p,m.ttl,m.n,⟨#[]⟩,[]⟩,la,false⟩ (if m.id.size=0 then [] else [prV m.id])=some ⟨⟨m.p,m.ttl,m.n,m.id,[]⟩,lb,false⟩:=by
  by_cases hi:m.id.size=0
  ·rw[if_pos hi,empty_of hi];exact⟨la,by omega,rfl⟩
  ·rw[if_neg hi];obtain⟨r0,r1⟩:=pr_read h2;refine⟨115,by omega,fold_one ?_⟩;rw[step_3 (sect_pr m.id) hla (pr_new h3) r0,r1]
 obtain⟨lb,hlb,hP⟩:=hP;unfold secM;rw[fold_append,hH];simp only;rw[fold_append,hP];simp only;refine fold_one ?_;rw[step_5 (sect_da m.body) hlb rfl]
 show some (St.mk ⟨m.p,m.ttl,m.n,m.id,[]++tb (sb m.body)⟩ 117 true)=_
 rw[tb_sb hb];rfl
theorem get_put {m:M}(h:mayM m=true)(ht:m.ttl < 4294967296)(hn:m.n < 4294967296)(hb:∀ x∈m.body,x < 256):getM (layL (secM m))=some m:=by
 rw[getM_lay (sec_good h ht hn),fold_sec h ht hn hb];exact if_pos ⟨rfl,(may_parts h).2.2.2⟩
end Go.Proofs.YtcilmmdmkpnppaaGreatDoor.Me
end
section
namespace Go.Proofs.YtcilmmdmkpnppaaGreatDoor.Me
set_option maxRecDepth 100000
open Utf Val Fl Oc Dec V
open Enc hiding nullV
theorem num_lt {ls:List V}(h:mayL ls=true)(i:Int):(oneR ls i 5 false false 0 V.num).1 < 4294967296:=by
 cases ha:Fl.ask ls i with
 | none=>rw[oneR_none ha];exact Nat.zero_lt_succ _
 | some v=>
  by_cases hk:v.kind=5
  ·rw[oneR_yes ha hk];have hm:=ask_may h ha;obtain⟨k,n,t,ks⟩:=v;have hk:k=5:=hk;subst hk;exact may_uint hm
  ·rw[oneR_no ha hk];exact Nat.zero_lt_succ _
theorem fin_true (m:M)(la:Nat):finM ⟨m,la,true⟩=if m.body.length≤2048 then some m else none:=by simp[finM]
theorem layL_append (a b:List V):layL (a++b)=layL a++layL b:=by
 induction a with
 | nil=>rfl
 | cons v a ih=>show lay (plan v)++layL (a++b)=_;rw[ih];exact(List.append_assoc _ _ _).symm
end Go.Proofs.YtcilmmdmkpnppaaGreatDoor.Me
end
section
namespace Go.Proofs.YtcilmmdmkpnppaaGreatDoor.Me
set_option maxRecDepth 100000
open Utf Val Fl Oc Dec V
open Enc hiding nullV
def secV (k:Nat)(x:V):V:=.mk 25 0 ⟨#[]⟩ [.mk 6 (112+k) ⟨#[]⟩ [],x]
theorem sec_ok {x:V}(k:Nat)(h:mayB x=true)(h1:items x≤1000)(h2:depth x≤10):okB (secV k x)=true:=by
 have hm:mayB (secV k x)=true:=may_pair (may_ulong _) rfl h;unfold okB;rw[hm,decide_eq_true (by simp[secV,items,itemsL];omega),decide_eq_true (by simp[secV,depth,depthL];omega)];rfl
theorem sec_gd {x:V}{k:Nat}(hk:k < 256)(h:mayB x=true)(h6:Enc.n64 x)(hb:bulk x≤67000000):Enc.Good (secV k x):=by
 refine⟨may_pair (may_ulong _) rfl h,⟨by omega,⟨by omega,trivial⟩,h6,trivial⟩,?_⟩;simp only[secV,bulk,bulkL,sz0];omega
theorem sect_sec {k:Nat}(hk:k < 9)(x:V):sectR (secV k x)=some (k,x):=by
 have h:k=0∨k=1∨k=2∨k=3∨k=4∨k=5∨k=6∨k=7∨k=8:=by omega
 rcases h with rfl | rfl | rfl | rfl | rfl | rfl | rfl | rfl | rfl<;>rfl
theorem sec_new {k:Nat}{x:V}{nm:ByteArray}(hok:okB (secV k x)=true):newR (secV k x) (112+k) nm=if x.kind=22 then some x.kids else none:=by
 unfold secV at hok ⊢;rw[newR_pair hok rfl,called_code];by_cases h:x.kind=22
 ·rw[if_pos ⟨decide_eq_true rfl,h⟩,if_pos h]
 ·rw[if_neg fun e=>h e.2,if_neg h]
theorem step_out {s:St}{v x:V}{i:Nat}(h:sectR v=some (i,x))(hc:112+i < s.last∨(112+i=s.last∧i≠5)):stepM s v=none:=by
 unfold stepM;rw[h];simp only;rw[if_pos hc]
theorem step_67 {s:St}{v x:V}{i:Nat}(h:sectR v=some (i,x))(hi:i=6∨i=7):stepM s v=none:=by
 unfold stepM;rw[h];simp only;by_cases hc:112+i < s.last∨(112+i=s.last∧i≠5)
 ·rw[if_pos hc]
 ·rw[if_neg hc,if_neg (by omega),if_neg (by omega),if_neg (by omega),if_pos hi]
end Go.Proofs.YtcilmmdmkpnppaaGreatDoor.Me
end
