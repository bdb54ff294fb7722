/- Contracts, each with its premises. -/
import Derived.Test.YtbbbanfggcediaaGreatDoorY02
import Derived.Laws.ComplexArith
import Derived.Maps.OwnOps
import Derived.Deep.QuietTactic
import Derived.BigQuiet
set_option maxRecDepth 100000
set_option maxHeartbeats 8000000
namespace Go.Proofs.YtbbbanfggcediaaGreatDoor
open _root_.Go.Proofs.Tryz
open List renaming length_append→ybx,take_append_drop→yby
open Nat renaming lt_of_lt_of_le→ybw,mul_le_mul_right→ybz,mul_one→ybA
namespace Enc
open Val V
inductive Pl where
 | mk (names:List Pl) (k n:Nat) (t:ByteArray) (code:Nat) (bare:Bool) (kids:List Pl) (re im:Nat)
namespace Pl
def names:Pl→List Pl | .mk a _ _ _ _ _ _ _ _=>a
def kind:Pl→Nat | .mk _ k _ _ _ _ _ _ _=>k
def num:Pl→Nat | .mk _ _ n _ _ _ _ _ _=>n
def text:Pl→ByteArray | .mk _ _ _ t _ _ _ _ _=>t
def code:Pl→Nat | .mk _ _ _ _ c _ _ _ _=>c
def bare:Pl→Bool | .mk _ _ _ _ _ b _ _ _=>b
def kids:Pl→List Pl | .mk _ _ _ _ _ _ a _ _=>a
def re:Pl→Nat | .mk _ _ _ _ _ _ _ r _=>r
def im:Pl→Nat | .mk _ _ _ _ _ _ _ _ r=>r
end Pl
open Pl
def tb (t:ByteArray):Lz:=t.data.toList.map UInt8.toNat
theorem zbK (t:ByteArray):(tb t).length=t.size:=by simp[tb]
theorem znc (t:ByteArray):∀ x∈tb t,x < 256:=by
 intro x hx;simp only[tb,List.mem_map] at hx;obtain⟨c,_,rfl⟩:=hx;exact c.toNat_lt
def dlong (k:Nat)(t:ByteArray)(c re:Nat):Nat:=
 if wid c=0 then 0 else if k < 19 then wid c else if k≤21 then wid c+t.size else wid c+(wid c+re)
mutual
def long:Pl→Nat
 | .mk ns k _ t c b _ re _=>if b then dlong k t c re else zbq ns+dlong k t c re+1
def zbq:List Pl→Nat
 | []=>0
 | p::r=>1+long p+zbq r
end
def zaV:List Pl→Nat
 | []=>0
 | p::r=>long p+zaV r
def dlay (k n:Nat)(t:ByteArray)(c re im:Nat)(ks:Lz):Lz:=
 if wid c=0 then [] else if k < 15 then be n (wid c) else if k < 19 then tb t else if k≤21 then be t.size (wid c)++tb t else be (wid c+re) (wid c)++be im (wid c)++ks
mutual
def lay:Pl→Lz
 | .mk ns k n t c b ks re im=>if b then dlay k n t c re im (layK ks) else layN ns++(c::dlay k n t c re im (layK ks))
def layN:List Pl→Lz
 | []=>[]
 | p::r=>0::(lay p++layN r)
def layK:List Pl→Lz
 | []=>[]
 | p::r=>lay p++layK r
end
inductive Can where
 | all | just (n:Nat) | upto (n:Nat) | short | near | none_ | small
def can:Can→Pl→Bool
 | .all,_=>true
 | .just n,p=>decide (p.num=n)
 | .upto n,p=>decide (p.num≤n)
 | .short,p=>decide (p.text.size≤255)
 | .near,p=>decide (p.num=sg1 p.num)
 | .none_,p=>decide (p.im=0)
 | .small,p=>decide (1+p.re≤255)&&decide (p.im≤255)
def chs:Nat→List (Nat×Can)
 | 1=>[(64,.all)]
 | 2=>[(65,.just 1),(66,.just 0),(86,.all)]
 | 3=>[(80,.all)]
 | 4=>[(96,.all)]
 | 5=>[(67,.just 0),(82,.upto 255),(112,.all)]
 | 6=>[(68,.just 0),(83,.upto 255),(128,.all)]
 | 7=>[(81,.all)]
 | 8=>[(97,.all)]
 | 9=>[(84,.near),(113,.all)]
 | 10=>[(85,.near),(129,.all)]
 | 11=>[(114,.all)]
 | 12=>[(130,.all)]
 | 13=>[(115,.all)]
 | 14=>[(131,.all)]
 | 15=>[(152,.all)]
 | 16=>[(116,.all)]
 | 17=>[(132,.all)]
 | 18=>[(148,.all)]
 | 19=>[(160,.short),(176,.all)]
 | 20=>[(161,.short),(177,.all)]
 | 21=>[(163,.short),(179,.all)]
 | 22=>[(69,.none_),(192,.small),(208,.all)]
 | 23=>[(193,.small),(209,.all)]
 | 24=>[(224,.small),(240,.all)]
 | _=>[]
def pick (cs:List (Nat×Can))(l:List Pl):Nat:=
 match cs with
 | []=>0
 | (c,f)::r=>if l.all (can f) then c else pick r l
def first (l:List Pl):Nat:=match l with
 | []=>0
 | p::_=>pick (chs p.kind) l
def null:Pl:=.mk [] 1 0 ⟨#[]⟩ 64 false [] 0 0
def setc (c:Nat)(b:Bool):Pl→Pl
 | .mk ns k n t _ _ ks re im=>.mk ns k n t c b ks re im
def zbf:List Pl→List Pl
 | []=>[null]
 | p::r=>setc (first (p::r)) false p::r.map (setc (first (p::r)) true)
def raw (ns:List Pl)(k n:Nat)(t:ByteArray)(m:Nat)(ks:List Pl):Pl:=.mk ns k n t 0 false ks (zaV ks) m
def fin (ns:List Pl)(k n:Nat)(t:ByteArray)(m:Nat)(ks:List Pl):Pl:=.mk ns k n t (first [raw ns k n t m ks]) false ks (zaV ks) m
def zu7:List Pl→Pl
 | x::.mk ns k n t c b ks re im::_=>.mk (x::ns) k n t c b ks re im
 | _=>null
mutual
def plan:V→Pl
 | .mk k n t ks=>if k=25 then zu7 (zar ks) else fin [] k n t ks.length (if k=24 then zbf (zar ks) else zar ks)
def zar:List V→List Pl
 | []=>[]
 | v::r=>plan v::zar r
end
theorem zbW:∀ l:List V,(zar l).length=l.length
 | []=>rfl
 | _::r=>by simp[zar,zbW r]
theorem zfh:∀ a b:List V,zar (a++b)=zar a++zar b
 | [],_=>rfl
 | x::a,b=>by simp[zar,zfh a b]
theorem zev:∀ l:List V,zar l=l.map plan
 | []=>rfl
 | _::l=>by simp[zar,zev l]
theorem zdl:∀ a b:List Pl,zaV (a++b)=zaV a+zaV b
 | [],_=>by simp[zaV]
 | x::a,b=>by simp[zaV,zdl a b];omega
theorem zbX:∀ a b:List Pl,zbq (a++b)=zbq a+zbq b
 | [],_=>by simp[zbq]
 | x::a,b=>by simp[zbq,zbX a b];omega
theorem zdZ:∀ a b:List Pl,layN (a++b)=layN a++layN b
 | [],_=>by simp[layN]
 | x::a,b=>by simp[layN,zdZ a b]
theorem zd0:∀ a b:List Pl,layK (a++b)=layK a++layK b
 | [],_=>by simp[layK]
 | x::a,b=>by simp[layK,zd0 a b]
theorem ziH (f:Can)(ns ns':List Pl)(k n:Nat)(t:ByteArray)(c c':Nat)(b b':Bool)(ks ks':List Pl)(re im:Nat):can f (.mk ns k n t c b ks re im)=can f (.mk ns' k n t c' b' ks' re im):=by
 cases f<;>rfl
theorem zlM (cs:List (Nat×Can))(ns ns':List Pl)(k n:Nat)(t:ByteArray)(c c':Nat)(b b':Bool)(ks ks':List Pl)(re im:Nat):pick cs [.mk ns k n t c b ks re im]=pick cs [.mk ns' k n t c' b' ks' re im]:=by
 induction cs with
 | nil=>rfl
 | cons x r ih=>simp only[pick,List.all_cons,List.all_nil,ziH x.2 ns ns' k n t c c' b b' ks ks' re im,ih];rfl
theorem zjT (ns ns':List Pl)(k n:Nat)(t:ByteArray)(c c':Nat)(b b':Bool)(ks ks':List Pl)(re im:Nat):first [.mk ns k n t c b ks re im]=first [.mk ns' k n t c' b' ks' re im]:=zlM _ _ _ _ _ _ _ _ _ _ _ _ _ _
mutual
def called:V→List V
 | .mk k _ _ ks=>if k=25 then znd ks else []
def znd:List V→List V
 | x::r=>x::zne r
 | []=>[]
def zne:List V→List V
 | y::_=>called y
 | []=>[]
end
mutual
def core:V→V
 | .mk k n t ks=>if k=25 then ztQ ks else .mk k n t ks
def ztQ:List V→V
 | _::r=>ztR r
 | []=>.mk 0 0 ⟨#[]⟩ []
def ztR:List V→V
 | y::_=>core y
 | []=>.mk 0 0 ⟨#[]⟩ []
end
theorem zbO (n:Nat)(t:ByteArray)(x y:V):called (.mk 25 n t [x,y])=x::called y:=by rw[called,if_pos rfl,znd,zne]
theorem zcn (n:Nat)(t:ByteArray)(x y:V):core (.mk 25 n t [x,y])=core y:=by rw[core,if_pos rfl,ztQ,ztR]
theorem zb9 {k n:Nat}{t:ByteArray}{ks:List V}(h:k≠25):called (.mk k n t ks)=[]:=by rw[called,if_neg h]
theorem zcD {k n:Nat}{t:ByteArray}{ks:List V}(h:k≠25):core (.mk k n t ks)=.mk k n t ks:=by rw[core,if_neg h]
mutual
def rank:Pl→Nat
 | .mk ns _ _ _ _ _ ks _ _=>zg ns+zg ks+1
def zg:List Pl→Nat
 | []=>0
 | p::r=>rank p+zg r
end
def zu8 (M:Nat)(k:Nat)(t:ByteArray)(c re im m:Nat):Prop:=64≤c∧c < 256∧t.size≤M∧re≤M∧im≤M∧m≤M∧(wid c≤8∨(15≤k∧k < 19))
mutual
def Fine (M:Nat):Pl→Prop
 | .mk ns k _ t c _ ks re im=>zu8 M k t c re im (zbq ns)∧ks.length≤M∧zfn M ns∧zfn M ks
def zfn (M:Nat):List Pl→Prop
 | []=>True
 | p::r=>Fine M p∧zfn M r
end
theorem zdI {M:Nat}:∀ {l:List Pl} {i:Nat} {p:Pl},zfn M l→l[i]? = some p→Fine M p
 | [],_,_,_,h=>by simp at h
 | x::l,0,p,hf,h=>by
  simp at h;subst h;exact hf.1
 | x::l,i+1,p,hf,h=>zdI (i:=i) hf.2 (by simpa using h)
theorem zhB {M:Nat}:∀ {l:List Pl},(∀ p∈l,Fine M p)→zfn M l
 | [],_=>trivial
 | x::l,h=>⟨h x (by simp),zhB fun p hp=>h p (by simp[hp])⟩
theorem zdm {M:Nat}:∀ {l:List Pl},zfn M l→∀ p∈l,Fine M p
 | [],_,_,hp=>by cases hp
 | x::l,h,p,hp=>by
  rcases List.mem_cons.1 hp with rfl | hp
  ·exact h.1
  ·exact zdm h.2 p hp
theorem zfy:∀ {l:List Pl} {i:Nat} {p:Pl},l[i]? = some p→rank p≤zg l
 | [],_,_,h=>by simp at h
 | x::l,0,p,h=>by
  simp at h;subst h;simp[zg]
 | x::l,i+1,p,h=>by
  have:=zfy (l:=l) (i:=i) (p:=p) (by simpa using h);simp[zg];omega
theorem zcM {l:List Pl}{i:Nat}{v:Pl}(h:l[i]? = some v):l.take (i+1)=l.take i++[v]:=by
 rw[List.take_add_one,h];rfl
theorem zlN {l:List Pl}{i:Nat}{p:Pl}(h:l[i]? = some p):zbq (l.take (i+1))=zbq (l.take i)+(1+long p):=by
 rw[zcM h,zbX];simp[zbq]
theorem zgP {l:List Pl}{i:Nat}{p:Pl}(h:l[i]? = some p):zaV (l.take (i+1))=zaV (l.take i)+long p:=by
 rw[zcM h,zdl];simp[zaV]
theorem znf {l:List Pl}{i:Nat}{p:Pl}(h:l[i]? = some p):layN (l.take (i+1))=layN (l.take i)++(0::lay p):=by
 rw[zcM h,zdZ];simp[layN]
theorem zng {l:List Pl}{i:Nat}{p:Pl}(h:l[i]? = some p):layK (l.take (i+1))=layK (l.take i)++lay p:=by
 rw[zcM h,zd0];simp[layK]
theorem zhC (l:List Pl)(i:Nat):zbq (l.take i)≤zbq l:=by
 have:=zbX (l.take i) (l.drop i);rw[yby] at this;omega
theorem zew (l:List Pl)(i:Nat):zaV (l.take i)≤zaV l:=by
 have:=zdl (l.take i) (l.drop i);rw[yby] at this;omega
theorem ziI (l:List Pl)(i:Nat):(layK (l.take i)).length≤(layK l).length:=by
 have:=congrArg List.length (zd0 (l.take i) (l.drop i));rw[yby,ybx] at this;omega
theorem ziJ (l:List Pl)(i:Nat):(layN (l.take i)).length≤(layN l).length:=by
 have:=congrArg List.length (zdZ (l.take i) (l.drop i));rw[yby,ybx] at this;omega
theorem ziK (l:List Pl):l.length≤zbq l:=by
 induction l with
 | nil=>simp
 | cons x l ih=>simp[zbq];omega
theorem zkD (c:Nat):wid c≤16:=by
 unfold wid
 split
 ·omega
 ·split
  ·have:c / 16 - 5≤4:=by omega
   exact Nat.pow_le_pow_right (by omega) this
  ·split<;>omega
theorem zpT (k:Nat){t:ByteArray}(c:Nat){re M:Nat}(ht:t.size≤M)(hr:re≤M):dlong k t c re≤32+M:=by
 have:=zkD c;unfold dlong
 split
 ·omega
 ·split
  ·omega
  ·split<;>omega
end Enc
namespace Enc
open Ieee
theorem zga (way:Toward)(s:Bool)(n d:Nat)(hd:d≤n.log2+2)(h:n % 2 ^ d=0):way.cut s n d=n / 2 ^ d:=by
 have e:1 <<< min d (n.log2+2)=2 ^ d:=by rw[Nat.min_eq_left hd,Nat.one_shiftLeft]
 have hp:0 < 2 ^ d:=Nat.two_pow_pos d;unfold Toward.cut;simp only[e,h];cases way<;>simp<;>omega
theorem zfz (way:Toward)(s:Bool)(d:Nat):way.cut s 0 d=0:=by
 have hp:0 < 1 <<< min d (Nat.log2 0+2):=by rw[Nat.one_shiftLeft];exact Nat.two_pow_pos _
 unfold Toward.cut;cases way<;>simp<;>omega
def wd (n:Nat):Nat:=if n=0 then 0 else (n.log2+1022) * 2 ^ 52+n * 2 ^ (52 - n.log2)
theorem zjU {n:Nat}(h:n < 2 ^ 53)(h0:n≠0):n.log2≤52:=by
 have:=(Nat.log2_lt h0).2 h;omega
theorem znh {a b:Nat}(h:a≤b):2 ^ b=2 ^ a * 2 ^ (b - a):=by rw[←Nat.pow_add];congr 1;omega
theorem zgQ {n:Nat}(h:n < 2 ^ 53)(h0:n≠0):2 ^ 52≤n * 2 ^ (52 - n.log2)∧n * 2 ^ (52 - n.log2) < 2 ^ 53:=by
 have hl:=zjU h h0;have h1:2 ^ n.log2≤n:=Nat.log2_self_le h0;have h2:n < 2 ^ (n.log2+1):=Nat.lt_log2_self;have e1:2 ^ 52=2 ^ n.log2 * 2 ^ (52 - n.log2):=znh hl;have e2:2 ^ 53=2 ^ (n.log2+1) * 2 ^ (52 - n.log2):=by rw[←Nat.pow_add];congr 1;omega
 have hp:0 < 2 ^ (52 - n.log2):=Nat.two_pow_pos _
 constructor
 ·rw[e1];exact ybz _ h1
 ·rw[e2];exact Nat.mul_lt_mul_of_pos_right h2 hp
theorem zdn {n:Nat}(h0:n≠0)(a:Nat):(n * 2 ^ a).log2=n.log2+a:=by
 have hp:0 < 2 ^ a:=Nat.two_pow_pos a;have Hp:n * 2 ^ a≠0:=Nat.mul_ne_zero h0 (by omega);have h1:2 ^ n.log2≤n:=Nat.log2_self_le h0;have h2:n < 2 ^ (n.log2+1):=Nat.lt_log2_self;have h3:2 ^ (n.log2+a)≤n * 2 ^ a:=by rw[Nat.pow_add];exact ybz _ h1
 have h4:n * 2 ^ a < 2 ^ (n.log2+a+1):=by
  rw[show n.log2+a+1=(n.log2+1)+a by omega,Nat.pow_add];exact Nat.mul_lt_mul_of_pos_right h2 hp
 have h5:n.log2+a≤(n * 2 ^ a).log2:=(Nat.le_log2 Hp).2 h3;have h6:(n * 2 ^ a).log2 < n.log2+a+1:=(Nat.log2_lt Hp).2 h4;omega
theorem ziL:double.infRung=2047 * 2 ^ 52:=rfl
theorem zdo:double.leastPlace = -1074:=rfl
theorem zex (n a:Nat)(h:n < 2 ^ 53):double.nearest false (n * 2 ^ a) (-(a:Int))=wd n:=by
 by_cases h0:n=0
 ·subst h0;simp[Format.nearest,wd,Format.word]
 have hp:0 < 2 ^ a:=Nat.two_pow_pos a;have Hp:n * 2 ^ a≠0:=Nat.mul_ne_zero h0 (by omega);have hl:=zjU h h0;have hk:=zgQ h h0;have UE:max (-(a:Int)+((n * 2 ^ a).log2:Nat) - (double.fractionBits:Nat)) double.leastPlace=(n.log2:Int) - 52:=by
  rw[zdn h0,zdo]
  show max (-(a:Int)+((n.log2+a:Nat):Int) - ((52:Nat):Int)) (-1074)=_
  omega
 unfold Format.nearest;rw[if_neg Hp];simp only[UE];have e1:(-(a:Int) - ((n.log2:Int) - 52)).toNat=52 - n.log2 - a:=by omega
 have e2:((n.log2:Int) - 52 - -(a:Int)).toNat=a - (52 - n.log2):=by omega
 have e3:((n.log2:Int) - 52 - double.leastPlace).toNat=n.log2+1022:=by rw[zdo];omega
 have hc:Toward.even.cut false ((n * 2 ^ a) <<< (52 - n.log2 - a)) (a - (52 - n.log2))=n * 2 ^ (52 - n.log2):=by
  rw[Nat.shiftLeft_eq];by_cases ha:a≤52 - n.log2
  ·rw[show a - (52 - n.log2)=0 by omega,zga _ _ _ _ (by omega) (by simp[Nat.mod_one]),Nat.pow_zero,Nat.div_one,Nat.mul_assoc,←Nat.pow_add,Nat.add_sub_cancel' ha]
  ·rw[show 52 - n.log2 - a=0 by omega,Nat.pow_zero,ybA];have e:n * 2 ^ a=n * 2 ^ (52 - n.log2) * 2 ^ (a - (52 - n.log2)):=by rw[Nat.mul_assoc,←Nat.pow_add,show 52 - n.log2+(a - (52 - n.log2))=a by omega]
   rw[zga _ _ _ _ (by rw[zdn h0];omega) (by rw[e];exact Nat.mul_mod_left _ _),e,Nat.mul_div_cancel _ (Nat.two_pow_pos _)]
 have BG:double.binade=2 ^ 52:=rfl;rw[e1,e2,e3,hc,ziL,BG,Format.word,if_neg (by decide),wd,if_neg h0];exact Nat.min_eq_left (by omega)
theorem zjV (n:Nat)(h:n < 2 ^ 53):∃ a:Nat,a≤1074∧double.read (wd n)=.number false (n * 2 ^ a) (-(a:Int)):=by
 by_cases h0:n=0
 ·subst h0;obtain⟨a,ha⟩:∃ a:Nat,a=1074:=⟨_,rfl⟩;have h:double.read (wd 0)=.number false 0 (-(a:Int)):=by rw[ha];rfl
  exact⟨a,by omega,by rw[Nat.zero_mul];exact h⟩
 have hl:=zjU h h0;have hk:=zgQ h h0;refine⟨52 - n.log2,by omega,?_⟩;have hw:wd n=(n.log2+1022) * 2 ^ 52+n * 2 ^ (52 - n.log2):=by rw[wd,if_neg h0]
 generalize hK:n * 2 ^ (52 - n.log2)=K at *;have kZ:double.signWeight=2 ^ 63:=rfl;have BG:double.binade=2 ^ 52:=rfl;have Hi:wd n < 2 ^ 63:=by rw[hw];omega
 have e1:wd n / 2 ^ 63=0:=Nat.div_eq_of_lt Hi;have e2:wd n % 2 ^ 63=wd n:=Nat.mod_eq_of_lt Hi;unfold Format.read;simp only[kZ,BG,e1,e2,ziL,zdo];rw[if_neg (by rw[hw];omega),if_pos (by rw[hw];omega)];have e3:wd n / 2 ^ 52=n.log2+1023:=by rw[hw];omega
 have e4:wd n % 2 ^ 52=K - 2 ^ 52:=by rw[hw];omega
 have e5:2 ^ 52+(K - 2 ^ 52)=K:=by omega
 have e6:(-1074:Int)+((n.log2+1023 - 1:Nat):Int) = -((52 - n.log2:Nat):Int):=by omega
 rw[e3,e4,e5,e6];rfl
theorem zni (m n a b:Nat):∃ c:Nat,(Datum.number false (m * 2 ^ a) (-(a:Int))).sum (.number false (n * 2 ^ b) (-(b:Int)))=some (.number false ((m+n) * 2 ^ c) (-(c:Int))):=by
 refine⟨max a b,?_⟩;have e0:min (-(a:Int)) (-(b:Int)) = -((max a b:Nat):Int):=by omega
 have e1:(-(a:Int) - -((max a b:Nat):Int)).toNat=max a b - a:=by omega
 have e2:(-(b:Int) - -((max a b:Nat):Int)).toNat=max a b - b:=by omega
 have k1:m * 2 ^ a * 2 ^ (max a b - a)=m * 2 ^ max a b:=by rw[Nat.mul_assoc,←Nat.pow_add,show a+(max a b - a)=max a b by omega]
 have k2:n * 2 ^ b * 2 ^ (max a b - b)=n * 2 ^ max a b:=by rw[Nat.mul_assoc,←Nat.pow_add,show b+(max a b - b)=max a b by omega]
 simp only[Datum.sum,e0,e1,e2,signed,Bool.false_eq_true,if_false,Nat.shiftLeft_eq,k1,k2];have k3:((m * 2 ^ max a b:Nat):Int)+((n * 2 ^ max a b:Nat):Int)=(((m+n) * 2 ^ max a b:Nat):Int):=by rw[Nat.add_mul];rfl
 rw[k3,Int.natAbs_natCast];generalize (m+n) * 2 ^ max a b=X;have k6:(if (X:Int)=0 then (false&&false) else decide ((X:Int) < 0))=false:=by
  have:¬ ((X:Int) < 0):=by omega
  simp[this]
 rw[k6]
def fb (n:Nat):Nat:=floatOfInt .f64 (n:Int)
theorem znj (n:Nat)(h:n < 2 ^ 53):fb n=wd n:=by
 have:=zex n 0 h;rw[Nat.pow_zero,ybA] at this;have e:decide ((n:Int) < 0)=false:=by simp
 unfold fb floatOfInt FloatKind.nearest;rw[e,Int.natAbs_natCast];exact this
theorem zrk (m n:Nat)(h:m+n < 2 ^ 53):floatBits .add .f64 (fb m) (fb n)=some (fb (m+n)):=by
 obtain⟨a,_,ha⟩:=zjV m (by omega);obtain⟨b,_,hb⟩:=zjV n (by omega);obtain⟨c,hc⟩:=zni m n a b;rw[znj m (by omega),znj n (by omega),znj (m+n) h]
 show ((double.read (wd m)).sum (double.read (wd n))).map double.write=_
 rw[ha,hb,hc]
 show some (double.nearest false _ _)=_
 rw[zex _ _ h]
theorem ztS (n:Nat)(h:n < 2 ^ 53):floatToIntVal .f64 (fb n) .i64=some (n:Int):=by
 obtain⟨a,_,ha⟩:=zjV n h;have hi:(double.read (wd n)).toInt .zero=some (n:Int):=by
  rw[ha];have hc:Toward.zero.cut false (n * 2 ^ a) a=n:=by
   by_cases h0:n=0
   ·subst h0;rw[Nat.zero_mul];exact zfz _ _ _
   ·rw[zga _ _ _ _ (by rw[zdn h0];omega) (Nat.mul_mod_left _ _),Nat.mul_div_cancel _ (Nat.two_pow_pos _)]
  have e1:(-(a:Int)).toNat=0:=by omega
  have e2:(-(-(a:Int))).toNat=a:=by omega
  simp only[Datum.toInt,Datum.integral,e1,e2,Nat.shiftLeft_eq,Nat.pow_zero,ybA,hc,signed,Bool.false_eq_true,if_false]
 unfold floatToIntVal;rw[znj n h]
 show (match (double.read (wd n)).toInt .zero with | some n=>_ | none=>none)=_
 rw[hi];simp only;rw[if_pos];simp[IntKind.min,IntKind.max,IntKind.signed,IntKind.bits];omega
theorem ztT (a b c d:Nat)(h:a+c < 2 ^ 53)(h':b+d < 2 ^ 53):cSumBits .add .f64 (fb a) (fb b) (fb c) (fb d)=some (fb (a+c),fb (b+d)):=by simp[cSumBits,zrk a c h,zrk b d h']
theorem znk:fb 0=0:=znj 0 (by decide)
end Enc
namespace Enc
open Go.RowKit Utf Val
theorem zbm (w:World)(a:Addr)(x y:Nat)(m:Mode):(store a (.complex .f64 x y) m).run prog w=stored prog w a (.complex .f64 x y) m:=run_store prog w a _ m rfl
mutual
def RepC (w:World)(P:Nat→Prop):Pl→List Value→Prop
 | .mk ns k n t code bb ks re im,c=>∃ NA nl nc VA vl vc KA kl kc,c=[.slice NA nl nc,.int .u8 (k:Int),.int .u64 (n:Int),.string t,.slice VA vl vc,.int .u8 (code:Int),.bool bb,.slice KA kl kc,.complex .f64 (fb re) (fb im)]∧nl=ns.length∧nl≤nc∧kl=ks.length∧kl≤kc ∧
   (0 < nl→∃ b o,NA=some ⟨b,o,none⟩∧P b∧RowC w P ns b o)∧(0 < kl→∃ b o,KA=some ⟨b,o,none⟩∧P b∧RowC w P ks b o)
def RowC (w:World)(P:Nat→Prop):List Pl→Nat→Nat→Prop
 | [],_,_=>True
 | p::r,b,o=>(∃ c,RepC w P p c∧∀ j,j < 9→w.cell? ⟨b,o+j,none⟩=c[j]?)∧RowC w P r b (o+9)
end
def Ps (w:World)(P:Nat→Prop)(l:List Pl)(A:Oz)(n c:Nat):Prop:=
 n=l.length∧n≤c∧(0 < n→∃ b o,A=some ⟨b,o,none⟩∧P b∧RowC w P l b o)
theorem zey {w:World}{P:Nat→Prop}{ns:List Pl}{k n:Nat}{t:ByteArray}{code:Nat}{bb:Bool}{ks:List Pl}{re im:Nat}{c:List Value}:RepC w P (.mk ns k n t code bb ks re im) c ↔
  ∃ NA nl nc VA vl vc KA kl kc,c=[.slice NA nl nc,.int .u8 (k:Int),.int .u64 (n:Int),.string t,.slice VA vl vc,.int .u8 (code:Int),.bool bb,.slice KA kl kc,.complex .f64 (fb re) (fb im)]∧Ps w P ns NA nl nc∧Ps w P ks KA kl kc:=by
 simp only[RepC,Ps]
 constructor
 ·rintro⟨NA,nl,nc,VA,vl,vc,KA,kl,kc,h,h1,h2,h3,h4,h5,h6⟩;exact⟨NA,nl,nc,VA,vl,vc,KA,kl,kc,h,⟨h1,h2,h5⟩,h3,h4,h6⟩
 ·rintro⟨NA,nl,nc,VA,vl,vc,KA,kl,kc,h,⟨h1,h2,h5⟩,h3,h4,h6⟩;exact⟨NA,nl,nc,VA,vl,vc,KA,kl,kc,h,h1,h2,h3,h4,h5,h6⟩
theorem RepC.len {w:World}{P:Nat→Prop}:∀ {p:Pl} {c:List Value},RepC w P p c→c.length=9
 | .mk _ _ _ _ _ _ _ _ _,_,h=>by
  obtain⟨NA,nl,nc,VA,vl,vc,KA,kl,kc,rfl,_⟩:=zey.1 h;rfl
mutual
theorem RepC.keep {w w':World}{P:Nat→Prop}(hk:∀ i,P i→w'.heap[i]? = w.heap[i]?):∀ {p:Pl} {c:List Value},RepC w P p c→RepC w' P p c
 | .mk _ _ _ _ _ _ _ _ _,_,h=>by
  obtain⟨NA,nl,nc,VA,vl,vc,KA,kl,kc,h,h1,h2,h3,h4,h5,h6⟩:=h;refine⟨NA,nl,nc,VA,vl,vc,KA,kl,kc,h,h1,h2,h3,h4,fun h=>?_,fun h=>?_⟩
  ·obtain⟨b,o,e,hP,hr⟩:=h5 h;exact⟨b,o,e,hP,hr.keep hk hP⟩
  ·obtain⟨b,o,e,hP,hr⟩:=h6 h;exact⟨b,o,e,hP,hr.keep hk hP⟩
theorem RowC.keep {w w':World}{P:Nat→Prop}(hk:∀ i,P i→w'.heap[i]? = w.heap[i]?):∀ {l:List Pl} {b o:Nat},P b→RowC w P l b o→RowC w' P l b o
 | [],_,_,_,_=>trivial
 | _::_,b,_,hP,h=>by
  obtain⟨⟨c,hc,hj⟩,hr⟩:=h;exact⟨⟨c,hc.keep hk,fun j h=>(World.cell?_of_block (hk b hP)).trans (hj j h)⟩,hr.keep hk hP⟩
end
mutual
theorem RepC.mono {w:World}{P P':Nat→Prop}(hk:∀ i,P i→P' i):∀ {p:Pl} {c:List Value},RepC w P p c→RepC w P' p c
 | .mk _ _ _ _ _ _ _ _ _,_,h=>by
  obtain⟨NA,nl,nc,VA,vl,vc,KA,kl,kc,h,h1,h2,h3,h4,h5,h6⟩:=h;refine⟨NA,nl,nc,VA,vl,vc,KA,kl,kc,h,h1,h2,h3,h4,fun h=>?_,fun h=>?_⟩
  ·obtain⟨b,o,e,hP,hr⟩:=h5 h;exact⟨b,o,e,hk _ hP,hr.mono hk⟩
  ·obtain⟨b,o,e,hP,hr⟩:=h6 h;exact⟨b,o,e,hk _ hP,hr.mono hk⟩
theorem RowC.mono {w:World}{P P':Nat→Prop}(hk:∀ i,P i→P' i):∀ {l:List Pl} {b o:Nat},RowC w P l b o→RowC w P' l b o
 | [],_,_,_=>trivial
 | _::_,_,_,h=>by
  obtain⟨⟨c,hc,hj⟩,hr⟩:=h;exact⟨⟨c,hc.mono hk,hj⟩,hr.mono hk⟩
end
theorem Ps.keep {w w':World}{P:Nat→Prop}{l:List Pl}{A:Oz}{n c:Nat}(h:Ps w P l A n c)(hk:∀ i,P i→w'.heap[i]? = w.heap[i]?):Ps w' P l A n c:=
 ⟨h.1,h.2.1,fun hl=>by
  obtain⟨b,o,e,hP,hr⟩:=h.2.2 hl;exact⟨b,o,e,hP,hr.keep hk hP⟩⟩
theorem Ps.mono {w:World}{P P':Nat→Prop}{l:List Pl}{A:Oz}{n c:Nat}(h:Ps w P l A n c)(hk:∀ i,P i→P' i):Ps w P' l A n c:=
 ⟨h.1,h.2.1,fun hl=>by
  obtain⟨b,o,e,hP,hr⟩:=h.2.2 hl;exact⟨b,o,e,hk _ hP,hr.mono hk⟩⟩
theorem znl {w:World}{P:Nat→Prop}:∀ {l:List Pl} {b o i:Nat} {p:Pl},RowC w P l b o→l[i]? = some p→∃ c,RepC w P p c∧∀ j,j < 9→w.cell? ⟨b,o+i * 9+j,none⟩=c[j]?
 | [],_,_,_,_,_,h=>by simp at h
 | x::l,b,o,0,p,hr,h=>by
  simp at h;subst h
  simpa using hr.1
 | x::l,b,o,i+1,p,hr,h=>by
  have:=znl (i:=i) hr.2 (by simpa using h)
  rwa [show o+(i+1) * 9=o+9+i * 9 by omega]
def At9 (w:World)(b o:Nat)(x0 x1 x2 x3 x4 x5 x6 x7 x8:Value):Prop:=
 w.cell? ⟨b,o,none⟩=some x0∧w.cell? ⟨b,o+1,none⟩=some x1∧w.cell? ⟨b,o+2,none⟩=some x2∧w.cell? ⟨b,o+3,none⟩=some x3∧w.cell? ⟨b,o+4,none⟩=some x4∧w.cell? ⟨b,o+5,none⟩=some x5∧w.cell? ⟨b,o+6,none⟩=some x6∧w.cell? ⟨b,o+7,none⟩=some x7∧w.cell? ⟨b,o+8,none⟩=some x8
theorem Ps.at_ {w:World}{P:Nat→Prop}{l:List Pl}{A:Oz}{n' c:Nat}(h:Ps w P l A n' c){i:Nat}(hi:i < n'):∃ b o ns k n t code bb ks re im NA nl nc VA vl vc KA kl kc,A=some ⟨b,o,none⟩∧P b∧l[i]? = some (.mk ns k n t code bb ks re im) ∧
  At9 w b (o+i * 9) (.slice NA nl nc) (.int .u8 (k:Int)) (.int .u64 (n:Int)) (.string t) (.slice VA vl vc) (.int .u8 (code:Int)) (.bool bb) (.slice KA kl kc) (.complex .f64 (fb re) (fb im))∧Ps w P ns NA nl nc∧Ps w P ks KA kl kc:=by
 obtain⟨b,o,e,hP,Hr⟩:=h.2.2 (by omega);have Qb:i < l.length:=by rw[←h.1];exact hi
 have hx:l[i]? = some l[i]:=List.getElem?_eq_getElem Qb;obtain⟨c,hr,hj⟩:=znl Hr hx;cases hv:l[i] with
 | mk ns k n t code bb ks re im=>
  rw[hv] at hx hr;obtain⟨NA,nl,nc,VA,vl,vc,KA,kl,kc,rfl,h1,h2⟩:=zey.1 hr;exact⟨b,o,ns,k,n,t,code,bb,ks,re,im,NA,nl,nc,VA,vl,vc,KA,kl,kc,e,hP,hx,⟨hj 0 (by omega),hj 1 (by omega),hj 2 (by omega),hj 3 (by omega),hj 4 (by omega),hj 5 (by omega),hj 6 (by omega),hj 7 (by omega),hj 8 (by omega)⟩,h1,h2⟩
def Pd (w:World)(l:List Pl)(A:Oz)(n c:Nat):Prop:=Ps w (fun i=>i < w.heap.size) l A n c
def Pn (B:Nat)(w:World)(l:List Pl)(A:Oz)(n c:Nat):Prop:=Ps w (fun i=>B≤i∧i < w.heap.size) l A n c
section
variable {w w':World} {B B':Nat} {l:List Pl} {A:Oz} {n c:Nat}
theorem Pd.call (h:Pd w l A n c)(hb:Below w.heap.size w w'):Pd w' l A n c:=(h.keep fun i hi=>hb.block i hi).mono fun _ hi=>ybw hi hb.size
theorem Pn.call (h:Pn B w l A n c)(hb:Below w.heap.size w w'):Pn B w' l A n c:=(h.keep fun i hi=>hb.block i hi.2).mono fun _ hi=>⟨hi.1,ybw hi.2 hb.size⟩
theorem Pn.pd (h:Pn B w l A n c):Pd w l A n c:=h.mono fun _ hi=>hi.2
theorem Pn.less (h:Pn B w l A n c)(hB:B'≤B):Pn B' w l A n c:=h.mono fun _ hi=>⟨Nat.le_trans hB hi.1,hi.2⟩
theorem Pd.alloc (h:Pd w l A n c)(o:Obj):Pd (w.alloc o) l A n c:=h.call ((za _ _))
theorem Pd.at_ {n':Nat}(h:Pd w l A n' c){i:Nat}(hi:i < n'):∃ b o ns k n t code bb ks re im NA nl nc VA vl vc KA kl kc,A=some ⟨b,o,none⟩∧b < w.heap.size∧l[i]? = some (.mk ns k n t code bb ks re im) ∧
  At9 w b (o+i * 9) (.slice NA nl nc) (.int .u8 (k:Int)) (.int .u64 (n:Int)) (.string t) (.slice VA vl vc) (.int .u8 (code:Int)) (.bool bb) (.slice KA kl kc) (.complex .f64 (fb re) (fb im))∧Pd w ns NA nl nc∧Pd w ks KA kl kc:=Ps.at_ h hi
theorem Pd.len (h:Pd w l A n c):n=l.length:=h.1
end
def Bx (w:World)(g:Nat)(x0 x1 x2 x3 x4 x5 x6 x7 x8:Value):Prop:=w.heap[g]? = some (.cells #[x0,x1,x2,x3,x4,x5,x6,x7,x8] 88 (0,0))
section
variable {w w':World} {g B:Nat} {x0 x1 x2 x3 x4 x5 x6 x7 x8:Value}
theorem Bx.lt (h:Bx w g x0 x1 x2 x3 x4 x5 x6 x7 x8):g < w.heap.size:=(Array.getElem?_eq_some_iff.1 h).1
theorem Bx.new (w:World)(x0 x1 x2 x3 x4 x5 x6 x7 x8:Value):Bx (w.alloc (.cells #[x0,x1,x2,x3,x4,x5,x6,x7,x8] 88)) w.heap.size x0 x1 x2 x3 x4 x5 x6 x7 x8:=heap_alloc_new w _
theorem Bx.below (h:Bx w g x0 x1 x2 x3 x4 x5 x6 x7 x8)(hb:Below B w w')(hg:g < B):Bx w' g x0 x1 x2 x3 x4 x5 x6 x7 x8:=(hb.block g hg).trans h
theorem Bx.call (h:Bx w g x0 x1 x2 x3 x4 x5 x6 x7 x8)(hb:Below w.heap.size w w'):Bx w' g x0 x1 x2 x3 x4 x5 x6 x7 x8:=h.below hb h.lt
theorem Bx.alloc (h:Bx w g x0 x1 x2 x3 x4 x5 x6 x7 x8)(o:Obj):Bx (w.alloc o) g x0 x1 x2 x3 x4 x5 x6 x7 x8:=h.call ((za _ _))
theorem Bx.all (h:Bx w g x0 x1 x2 x3 x4 x5 x6 x7 x8):w.cell? ⟨g,0,none⟩=some x0∧w.cell? ⟨g,1,none⟩=some x1∧w.cell? ⟨g,2,none⟩=some x2∧w.cell? ⟨g,3,none⟩=some x3∧w.cell? ⟨g,4,none⟩=some x4∧w.cell? ⟨g,5,none⟩=some x5∧w.cell? ⟨g,6,none⟩=some x6∧w.cell? ⟨g,7,none⟩=some x7∧w.cell? ⟨g,8,none⟩=some x8∧∀ j,w.frozen? ⟨g,j,none⟩=false:=by
 refine⟨cell_of_row w g 0 _ _ _ h,cell_of_row w g 1 _ _ _ h,cell_of_row w g 2 _ _ _ h,cell_of_row w g 3 _ _ _ h,cell_of_row w g 4 _ _ _ h,cell_of_row w g 5 _ _ _ h,cell_of_row w g 6 _ _ _ h,cell_of_row w g 7 _ _ _ h,cell_of_row w g 8 _ _ _ h,fun j=>?_⟩;unfold Bx at h;simp[World.frozen?,h]
theorem Bx.far (h:Bx w g x0 x1 x2 x3 x4 x5 x6 x7 x8){p:Addr}(hp:g≠p.block)(u:Value):Bx (w.setCell p u) g x0 x1 x2 x3 x4 x5 x6 x7 x8:=(Below.heap_setCell w p u g hp).trans h
end
def zcE (n:Nat)(w:World)(e:Ending)(w':World):Prop:=e=.returned (.int .i64 (n:Int))∧Below w.heap.size w w'
theorem undF:(prog.underlying 136).isSome=true:=by kernel_rfl
theorem zkE (n:Nat)(h:n < 2 ^ 53)(w:World):(convert 136 3 (.float .f64 (fb n))).run prog w=.ok (.int .i64 (n:Int)) w:=
 run_convert_float_int w 136 3 .f64 .i64 (fb n) (n:Int) undF underlying3 (ztS n h)
theorem ze4 (NA:Oz)(nl nc k n:Nat)(t:ByteArray)(VA:Oz)(vl vc code:Nat)(bb:Bool)(KA:Oz)(kl kc re im:Nat)(w:World)(h:im < 2 ^ 50):Calls prog 85 #[.agg #[.slice NA nl nc,.int .u8 (k:Int),.int .u64 (n:Int),.string t,.slice VA vl vc,.int .u8 (code:Int),.bool bb,.slice KA kl kc,.complex .f64 (fb re) (fb im)]] w (zcE im w):=by
 have hc:=zkE im (by omega);clear h;go_enter func85,ntmps85;go_wp2;go_ret;exact⟨rfl,(za _ _)⟩
theorem zgb (NA:Oz)(nl nc k n:Nat)(t:ByteArray)(VA:Oz)(vl vc code:Nat)(bb:Bool)(KA:Oz)(kl kc re im:Nat)(x:Nat)(w:World)(hx:x≤16)(h:re < 2 ^ 50):Calls prog 88 #[.agg #[.slice NA nl nc,.int .u8 (k:Int),.int .u64 (n:Int),.string t,.slice VA vl vc,.int .u8 (code:Int),.bool bb,.slice KA kl kc,.complex .f64 (fb re) (fb im)],.int .i64 x] w (zcE (x+re) w):=by
 have hc:=zkE re (by omega);have h':re≤1125899906842624:=by omega
 clear h;go_enter func88,ntmps88;go_wp2;go_ret;exact⟨by simp,(za _ _)⟩
theorem ziM (NA:Oz)(nl nc k n:Nat)(t:ByteArray)(VA:Oz)(vl vc code:Nat)(bb:Bool)(KA:Oz)(kl kc re im:Nat)(w:World)(h1:64≤code)(h2:code < 256)(ht:t.size≤1099511627776)(J0:re≤1099511627776):Calls prog 99 #[.agg #[.slice NA nl nc,.int .u8 (k:Int),.int .u64 (n:Int),.string t,.slice VA vl vc,.int .u8 (code:Int),.bool bb,.slice KA kl kc,.complex .f64 (fb re) (fb im)]] w (zcE (dlong k t code re) w):=by
 have hd:dlong k t code re=if wid code=0 then 0 else if k < 19 then wid code else if k≤21 then wid code+t.size else wid code+(wid code+re):=rfl
 have Cw:=zkD code;have HW:∀ wx:World,Calls prog 126 #[.int .u8 (code:Int)] wx fun e w'=>e=.returned (.int .i64 (wid code:Nat))∧w'=wx:=fun wx=>zh8 code h1 h2 wx;rw[hd];obtain⟨W,hW⟩:∃ W,wid code=W:=⟨_,rfl⟩;rw[hW] at Cw ⊢;simp only[hW] at HW;clear hd hW h1 h2;by_cases h0:W=0
 ·subst h0;rw[if_pos rfl];go_enter func99,ntmps99;go_wp2_with (go_at_call 126;refine(HW _).mono ?_;rintro e w1 ⟨rfl,rfl⟩);go_ret;exact⟨rfl,(za _ _)⟩
 rw[if_neg h0];have d0:((W:Int)==0)=false:=by rw[zac];omega
 by_cases gF:k < 19
 ·rw[if_pos gF];have d1:decide ((k:Int) < 19)=true:=by simp;omega
  clear gF h0;go_enter func99,ntmps99;go_wp2_with (go_at_call 126;refine(HW _).mono ?_;rintro e w1 ⟨rfl,rfl⟩);go_ret;exact⟨rfl,(za _ _)⟩
 rw[if_neg gF];have d1:decide ((k:Int) < 19)=false:=by simp;omega
 by_cases gR:k≤21
 ·rw[if_pos gR];have d2:decide ((k:Int)≤21)=true:=by simp;omega
  clear gF h0 gR;go_enter func99,ntmps99;go_wp2_with (go_at_call 126;refine(HW _).mono ?_;rintro e w1 ⟨rfl,rfl⟩);go_ret;exact⟨rfl,(za _ _)⟩
 rw[if_neg gR];have d2:decide ((k:Int)≤21)=false:=by simp;omega
 clear gF h0 gR;have hB:Below w.heap.size w (w.alloc (.cells #[.slice NA nl nc,.int .u8 (k:Int),.int .u64 (n:Int),.string t,.slice VA vl vc,.int .u8 (code:Int),.bool bb,.slice KA kl kc,.complex .f64 (fb re) (fb im)] 88)):=(za _ _);go_enter func99,ntmps99;go_wp2_with (first
  | (go_at_call 126;refine(HW _).mono ?_;rintro e w1 ⟨rfl,rfl⟩)
  | (go_at_call 88;refine(zgb NA nl nc k n t VA vl vc code bb KA kl kc re im W _ (by omega) (by omega)).mono ?_;rintro e w1 ⟨rfl,Ha⟩;have He:=zad hB Ha))
 go_ret;exact⟨zjH (by go_num),He⟩
theorem zdC (N:Nat):∀ (ns ks:List Pl) (NA:Oz) (nl nc k n:Nat) (t:ByteArray) (VA:Oz) (vl vc code:Nat) (bb:Bool) (KA:Oz) (kl kc re im:Nat) (w:World),rank (.mk ns k n t code bb ks re im)≤N→Fine 1099511627776 (.mk ns k n t code bb ks re im)→Pd w ns NA nl nc →
  Calls prog 55 #[.agg #[.slice NA nl nc,.int .u8 (k:Int),.int .u64 (n:Int),.string t,.slice VA vl vc,.int .u8 (code:Int),.bool bb,.slice KA kl kc,.complex .f64 (fb re) (fb im)]] w (zcE (long (.mk ns k n t code bb ks re im)) w):=by
 induction N using Nat.strongRecOn with
 | ind N ih=>
 intro ns ks NA nl nc k n t VA vl vc code bb KA kl kc re im w hN hF Xp;obtain⟨⟨h1,h2,ht,J0,xu,qC,_⟩,_,BH,_⟩:=hF;have HD:∀ wx:World,Calls prog 99 #[.agg #[.slice NA nl nc,.int .u8 (k:Int),.int .u64 (n:Int),.string t,.slice VA vl vc,.int .u8 (code:Int),.bool bb,.slice KA kl kc,.complex .f64 (fb re) (fb im)]] wx (zcE (dlong k t code re) wx):=fun wx=>ziM NA nl nc k n t VA vl vc code bb KA kl kc re im wx h1 h2 ht J0;have Jc:dlong k t code re≤1099511627808:=zpT k code ht J0;simp only[long];obtain⟨D,hD⟩:∃ D,dlong k t code re=D:=⟨_,rfl⟩;simp only[hD] at HD Jc ⊢;simp only[rank] at hN;clear hD h1 h2 ht J0 xu;have Hz:=Bx.new w (.slice NA nl nc) (.int .u8 (k:Int)) (.int .u64 (n:Int)) (.string t) (.slice VA vl vc) (.int .u8 (code:Int)) (.bool bb) (.slice KA kl kc) (.complex .f64 (fb re) (fb im));have hB:Below w.heap.size w (w.alloc (.cells #[.slice NA nl nc,.int .u8 (k:Int),.int .u64 (n:Int),.string t,.slice VA vl vc,.int .u8 (code:Int),.bool bb,.slice KA kl kc,.complex .f64 (fb re) (fb im)] 88)):=(za _ _);have HX:=zaa Hz;clear Hz;have vY:=zbm;have IH:=zaa ih;clear ih;cases bb
 ·have jv:nl≤ns.length:=Nat.le_of_eq Xp.len;have JC:ns.length≤nl:=Nat.le_of_eq Xp.len.symm;have Jb:=ziK ns;go_enter func55,ntmps55;go_wp2_with (go_at_call 99;refine(HD _).mono ?_;rintro e w1 ⟨rfl,Ha⟩;have U4:=HX.out.call Ha;have xv:=U4.all;obtain⟨c0,c1,c2,c3,c4,c5,c6,c7,c8,cf⟩:=xv;have He:=zad hB Ha);go_loopw [3,14] (fun m i wr=>∃ j:Nat,j≤nl∧i=.int .i64 j∧m=.int .i64 ((zbq (ns.take j)+D:Nat):Int)∧Below w.heap.size w wr) (fun _ i _=>nl - (intOf i).toNat)
  case atStart=>exact⟨0,Nat.zero_le _,rfl,by simp[zbq],He⟩
  case round=>
   obtain⟨j,hj,rfl,rfl,hb⟩:=hrel;clear U4 c0 c1 c2 c3 c4 c5 c6 c7 c8 cf Ha He;by_cases Hi:j < nl
   ·have kE:=Xp.call hb;obtain⟨b,o,ns',k',n',t',code',bb',ks',re',im',NA',nl',nc',VA',vl',vc',KA',kl',kc',rfl,j0,hx,⟨a0,a1,a2,a3,a4,a5,a6,a7,a8⟩,JN,_⟩:=kE.at_ Hi;have jN:=zfy hx;have qo:=zdI BH hx;have HT:=zaa (zlN hx);have Qx:=zhC ns (j+1);have VP:zbq (ns.take j)+(1+long (.mk ns' k' n' t' code' bb' ks' re' im'))≤1099511627776:=by have:=HT.out;omega
    clear hx;have Hj:=hb.alloc hb.size (.cells #[.slice NA' nl' nc',.int .u8 (k':Int),.int .u64 (n':Int),.string t',.slice VA' vl' vc',.int .u8 (code':Int),.bool bb',.slice KA' kl' kc',.complex .f64 (fb re') (fb im')] 88);obtain⟨LP,KR⟩:∃ LP,long (.mk ns' k' n' t' code' bb' ks' re' im')=LP:=⟨_,rfl⟩;have Hx:∀ wx:World,Pd wx ns' NA' nl' nc'→Calls prog 55 #[.agg #[.slice NA' nl' nc',.int .u8 (k':Int),.int .u64 (n':Int),.string t',.slice VA' vl' vc',.int .u8 (code':Int),.bool bb',.slice KA' kl' kc',.complex .f64 (fb re') (fb im')]] wx (zcE LP wx):=fun wx h=>KR▸IH.out (rank (.mk ns' k' n' t' code' bb' ks' re' im')) (by omega) ns' ks' NA' nl' nc' k' n' t' VA' vl' vc' code' bb' KA' kl' kc' re' im' wx zab qo h;rw[KR] at VP;have Yd:Hid (zbq (ns.take (j+1))=zbq (ns.take j)+(1+LP)):=zaa (by rw[HT.out,KR]);obtain⟨LN,hLN⟩:∃ LN,zbq (ns.take j)=LN:=⟨_,rfl⟩;simp only[hLN] at Yd VP ⊢;clear KR hLN HT qo jN Qx;go_wp2_with (go_at_call 55;refine(Hx _ (JN.alloc _)).mono ?_;rintro e w2 ⟨rfl,He⟩;have gl:=zad Hj He);go_roundw
    case rel=>exact⟨j+1,by omega,by go_num,by rw[Yd.out];go_num,gl⟩
    case measure=>simp[intOf];omega
   ·have HE:Hid (ns.take j=ns):=zaa (List.take_of_length_le (by omega));have hq:zbq (ns.take j)≤1099511627776:=by rw[HE.out];omega
    go_wp2;go_ret;exact⟨zjH (by rw[HE.out];go_num),hb⟩
 ·go_enter func55,ntmps55;go_wp2_with (go_at_call 99;refine(HD _).mono ?_;rintro e w1 ⟨rfl,Ha⟩;have U4:=HX.out.call Ha;have xv:=U4.all;obtain⟨c0,c1,c2,c3,c4,c5,c6,c7,c8,cf⟩:=xv;have He:=zad hB Ha);go_ret;exact⟨rfl,He⟩
end Enc
namespace Enc
open Go.RowKit Utf Val Go.MapKept
def CanV (w:World)(f:Can)(v:Value):Prop:=match f with
 | .all=>v=.func (.func 83) #[] #[]
 | .just n=>∃ g,v=.func (.func 92) #[] #[.pointer (some ⟨g,0,none⟩)]∧g < w.heap.size∧w.cell? ⟨g,0,none⟩=some (.int .u64 (n:Int))
 | .upto n=>∃ g,v=.func (.func 94) #[] #[.pointer (some ⟨g,0,none⟩)]∧g < w.heap.size∧w.cell? ⟨g,0,none⟩=some (.int .u64 (n:Int))
 | .short=>v=.func (.func 86) #[] #[]
 | .near=>v=.func (.func 89) #[] #[]
 | .none_=>v=.func (.func 84) #[] #[]
 | .small=>v=.func (.func 87) #[] #[]
theorem CanV.keep {w w':World}{f:Can}{v:Value}(h:CanV w f v)(hs:w.heap.size≤w'.heap.size)(hk:∀ g,g < w.heap.size→∀ o x,w.cell? ⟨g,o,none⟩=some (.int .u64 x)→w'.cell? ⟨g,o,none⟩=some (.int .u64 x)):CanV w' f v:=by
 cases f with
 | just n=>
  obtain⟨g,e,hg,hc⟩:=h;exact⟨g,e,by omega,hk g hg _ _ hc⟩
 | upto n=>
  obtain⟨g,e,hg,hc⟩:=h;exact⟨g,e,by omega,hk g hg _ _ hc⟩
 | all=>exact h
 | short=>exact h
 | near=>exact h
 | none_=>exact h
 | small=>exact h
theorem CanV.call {w w':World}{f:Can}{v:Value}(h:CanV w f v)(hb:Below w.heap.size w w'):CanV w' f v:=h.keep hb.size fun g hg o _ hc=>(hb.cell (p:=⟨g,o,none⟩) hg).trans hc
theorem CanV.alloc {w:World}{f:Can}{v:Value}(h:CanV w f v)(o:Obj):CanV (w.alloc o) f v:=h.call ((za _ _))
def ChV (w:World):List (Nat×Can)→Nat→Nat→Prop
 | [],_,_=>True
 | (c,f)::r,b,o=>(w.cell? ⟨b,o,none⟩=some (.int .u8 (c:Int))∧∃ v,w.cell? ⟨b,o+1,none⟩=some v∧CanV w f v)∧ChV w r b (o+2)
theorem ChV.keep {w w':World}(hs:w.heap.size≤w'.heap.size)(hk:∀ g,g < w.heap.size→∀ o x,w.cell? ⟨g,o,none⟩=some x→w'.cell? ⟨g,o,none⟩=some x):∀ {l:List (Nat×Can)} {b o:Nat},b < w.heap.size→ChV w l b o→ChV w' l b o
 | [],_,_,_,_=>trivial
 | (_,_)::_,_,_,hb,⟨⟨h1,v,h2,h3⟩,h4⟩=>⟨⟨hk _ hb _ _ h1,v,hk _ hb _ _ h2,h3.keep hs fun g hg o _=>hk g hg o _⟩,h4.keep hs hk hb⟩
theorem zrl {w:World}:∀ {l:List (Nat×Can)} {b o i c:Nat} {f:Can},ChV w l b o→l[i]? = some (c,f)→w.cell? ⟨b,o+i * 2,none⟩=some (.int .u8 (c:Int))∧∃ v,w.cell? ⟨b,o+i * 2+1,none⟩=some v∧CanV w f v
 | [],_,_,_,_,_,_,h=>by simp at h
 | (c',f')::l,b,o,0,c,f,hr,h=>by
  simp at h;obtain⟨rfl,rfl⟩:=h
  simpa using hr.1
 | x::l,b,o,i+1,c,f,hr,h=>by
  have:=zrl (i:=i) hr.2 (by simpa using h)
  rwa [show o+(i+1) * 2=o+2+i * 2 by omega]
def EntV (w:World)(k:Nat)(v:Value):Prop:=∃ b c,v=.slice (some ⟨b,0,none⟩) (chs k).length c∧b < w.heap.size∧ChV w (chs k) b 0
theorem EntV.keep {w w':World}{k:Nat}{v:Value}(h:EntV w k v)(hs:w.heap.size≤w'.heap.size)(hk:∀ g,g < w.heap.size→∀ o x,w.cell? ⟨g,o,none⟩=some x→w'.cell? ⟨g,o,none⟩=some x):EntV w' k v:=by
 obtain⟨b,c,e,hb,hc⟩:=h;exact⟨b,c,e,by omega,hc.keep hs hk hb⟩
def Keep (w w':World):Prop:=w.heap.size≤w'.heap.size∧∀ g,g < w.heap.size→∀ o x,w.cell? ⟨g,o,none⟩=some x→w'.cell? ⟨g,o,none⟩=some x
theorem Keep.of_below {w w':World}(hb:Below w.heap.size w w'):Keep w w':=⟨hb.size,fun g hg o _ hc=>(hb.cell (p:=⟨g,o,none⟩) hg).trans hc⟩
def MapS (S:Nat→Prop)(w:World)(bm:Nat):Prop:=∃ es clock,w.heap[bm]? = some (.map es clock)∧(∀ e∈es.toList,∃ k:Nat,e.key=.int .u8 (k:Int)∧S k∧EntV w k e.val)∧∀ k,S k→∃ e∈es.toList,e.key=.int .u8 (k:Int)
theorem MapS.lt {S:Nat→Prop}{w:World}{bm:Nat}(h:MapS S w bm):bm < w.heap.size:=by
 obtain⟨es,clock,hb,_⟩:=h;exact(Array.getElem?_eq_some_iff.1 hb).1
theorem MapS.keep {S:Nat→Prop}{w w':World}{bm:Nat}(h:MapS S w bm)(hb:w'.heap[bm]? = w.heap[bm]?)(hk:Keep w w'):MapS S w' bm:=by
 obtain⟨es,clock,hm,hs,he⟩:=h;exact⟨es,clock,hb.trans hm,fun e h=>by
  obtain⟨k,h1,h2,h3⟩:=hs e h;exact⟨k,h1,h2,h3.keep hk.1 hk.2⟩,he⟩
theorem MapS.call {S:Nat→Prop}{w w':World}{bm:Nat}(h:MapS S w bm)(hb:Below w.heap.size w w'):MapS S w' bm:=h.keep (hb.block bm h.lt) (Keep.of_below hb)
theorem MapS.same {S S':Nat→Prop}{w:World}{bm:Nat}(h:MapS S w bm)(hs:∀ k,S k↔S' k):MapS S' w bm:=by
 obtain⟨es,clock,hm,h1,h2⟩:=h;exact⟨es,clock,hm,fun e he=>by
  obtain⟨k,a,b,c⟩:=h1 e he;exact⟨k,a,(hs k).1 b,c⟩,fun k hk=>h2 k ((hs k).2 hk)⟩
theorem zpU (w:World):MapS (fun _=>False) (w.alloc (.map #[] 0)) w.heap.size:=
 ⟨#[],0,heap_alloc_new w _,fun e h=>by simp at h,fun _ h=>h.elim⟩
theorem zlO {S:Nat→Prop}{k:Nat}{w:World}{bm:Nat}{v:Value}(h:MapS S w bm)(hk:¬ S k)(hv:EntV w k v):∃ w',(Instr.mapUpdate 90 (.map (some bm)) (.int .u8 (k:Int)) v).run prog w=.ok () w'∧MapS (fun j=>j=k∨S j) w' bm∧w.grownBy w' (some bm)∧Keep w w':=by
 obtain⟨es,clock,hm,he,hS⟩:=h;have gQ:∀ x∈es.toList,IsKey (.int .u8) x.key:=fun x hx=>by
  obtain⟨j,e,_⟩:=he x hx;rw[e];rfl
 have hf:(Instr.findKey 5 (.int .u8 (k:Int)) es.toList).run prog w=.ok none w:=by
  rcases findNow_spec (d:=.int .u8) (k:=.int .u8 (k:Int)) rfl es.toList 0 gQ with ⟨h1,_⟩ | ⟨j,e,_,h2,h3⟩
  ·exact run_findKey underlying5 h1
  ·obtain⟨j',e',hj,_⟩:=he e (List.mem_of_getElem? h2);rw[e'] at h3;injection h3 with _ h3
   have:j'=k:=by omega
   exact absurd (this▸hj) hk
 have Kc:(Instr.checkKey false 10000 5 (.int .u8 (k:Int))).run prog w=.ok () w:=run_checkKey (d:=.int .u8) underlying5 (by exact rfl) false 9999;have jt:=heap_set (o':=.map (es.push { key:=.int .u8 (k:Int),val:=v,born:=clock }) (clock+1)) hm;have qQ:Keep w { w with heap:=w.heap.setIfInBounds bm (.map (es.push { key:=.int .u8 (k:Int),val:=v,born:=clock }) (clock+1)) }:=⟨by simp,fun g hg o x hc=>by
  by_cases e:g=bm
  ·subst e;simp[World.cell?,hm] at hc
  ·rw[World.cell?_of_block (jt.2 g e)];exact hc⟩
 refine⟨{ w with heap:=w.heap.setIfInBounds bm (.map (es.push { key:=.int .u8 (k:Int),val:=v,born:=clock }) (clock+1)) },?_,⟨_,_,jt.1,?_,?_⟩,⟨rfl,rfl,rfl,by simp,fun i _ hi=>jt.2 i fun e=>hi (by rw[e])⟩,qQ⟩
 ·simp only[Instr.mapUpdate,Sem.run_bind,run_underlying underlying90,Result.andThen,MapKept.run_getObj_map hm,Kc,hf,run_setObj_map _ hm]
 ·intro e hx;rw[Array.toList_push,List.mem_append] at hx;rcases hx with hx | hx
  ·obtain⟨j,h1,h2,h3⟩:=he e hx;exact⟨j,h1,.inr h2,h3.keep qQ.1 qQ.2⟩
  ·rw[List.mem_singleton.1 hx];exact⟨k,rfl,.inl rfl,hv.keep qQ.1 qQ.2⟩
 ·intro j hj;rw[Array.toList_push];rcases hj with rfl | hj
  ·exact⟨_,List.mem_append.2 (.inr (List.mem_singleton.2 rfl)),rfl⟩
  ·obtain⟨e,h1,h2⟩:=hS j hj;exact⟨e,List.mem_append.2 (.inl h1),h2⟩
def CM (w:World)(bm:Nat):Prop:=MapS (fun k=>1≤k∧k≤24) w bm
theorem CM.call {w w':World}{bm:Nat}(h:CM w bm)(hb:Below w.heap.size w w'):CM w' bm:=MapS.call h hb
theorem zpV {w:World}{bm k:Nat}(h:CM w bm)(h1:1≤k)(h2:k≤24):∃ v,(Instr.lookup 90 (.map (some bm)) (.int .u8 (k:Int)) false).run prog w=.ok v w∧EntV w k v:=by
 obtain⟨es,clock,hm,he,hS⟩:=h;have Kc:(Instr.checkKey es.isEmpty 10000 5 (.int .u8 (k:Int))).run prog w=.ok () w:=run_checkKey (d:=.int .u8) underlying5 (by exact rfl) _ 9999;have gQ:∀ x∈es.toList,IsKey (.int .u8) x.key:=fun x hx=>by
  obtain⟨j,e,_⟩:=he x hx;rw[e];rfl
 rcases findNow_spec (d:=.int .u8) (k:=.int .u8 (k:Int)) rfl es.toList 0 gQ with ⟨_,GN⟩ | ⟨j,e,hf,xY,h3⟩
 ·obtain⟨e,hx,va⟩:=hS k ⟨h1,h2⟩;exact absurd va (GN e hx)
 ·obtain⟨j',va,_,hE⟩:=he e (List.mem_of_getElem? xY);rw[h3] at va;injection va with _ va
  have YY:k=j':=by omega
  rw[←YY] at hE;refine⟨e.val,?_,hE⟩;have hfk:=run_findKey (P:=prog) (w:=w) underlying5 hf;simp only[Instr.lookup,Sem.run_bind,run_underlying underlying90,Result.andThen,MapKept.run_getObj_map hm,Kc,hfk,Sem.run_pure,Bool.false_eq_true,if_false]
end Enc
namespace Enc
open Go.RowKit Utf Val
def zaj (p:Bool)(w:World)(e:Ending)(w':World):Prop:=e=.returned (.bool p)∧Below w.heap.size w w'
section
variable (NA:Oz) (nl nc k n:Nat) (t:ByteArray) (VA:Oz) (vl vc code:Nat) (bb:Bool) (KA:Oz) (kl kc re im:Nat) (w:World)
theorem zsg:Calls prog 83 #[.agg #[.slice NA nl nc,.int .u8 (k:Int),.int .u64 (n:Int),.string t,.slice VA vl vc,.int .u8 (code:Int),.bool bb,.slice KA kl kc,.complex .f64 (fb re) (fb im)]] w (zaj true w):=by
 go_enter func83,ntmps83;go_wp2;go_ret;exact⟨rfl,(za _ _)⟩
theorem zpW (h:im < 2 ^ 50):Calls prog 84 #[.agg #[.slice NA nl nc,.int .u8 (k:Int),.int .u64 (n:Int),.string t,.slice VA vl vc,.int .u8 (code:Int),.bool bb,.slice KA kl kc,.complex .f64 (fb re) (fb im)]] w (zaj (decide (im=0)) w):=by
 have hB:Below w.heap.size w (w.alloc (.cells #[.slice NA nl nc,.int .u8 (k:Int),.int .u64 (n:Int),.string t,.slice VA vl vc,.int .u8 (code:Int),.bool bb,.slice KA kl kc,.complex .f64 (fb re) (fb im)] 88)):=(za _ _);have HC:∀ wx:World,Calls prog 85 #[.agg #[.slice NA nl nc,.int .u8 (k:Int),.int .u64 (n:Int),.string t,.slice VA vl vc,.int .u8 (code:Int),.bool bb,.slice KA kl kc,.complex .f64 (fb re) (fb im)]] wx (zcE im wx):=fun wx=>ze4 NA nl nc k n t VA vl vc code bb KA kl kc re im wx h;obtain⟨b,hb⟩:∃ b,decide (im=0)=b:=⟨_,rfl⟩;have hd:((im:Int)==0)=b:=by rw[←hb,Bool.eq_iff_iff];simp
 rw[hb];clear hb h;go_enter func84,ntmps84;go_wp2_with (go_at_call 85;(with_reducible refine(HC _).mono ?_);rintro e w1 ⟨rfl,Ha⟩);go_ret;exact⟨rfl,zad hB Ha⟩
theorem znm:Calls prog 86 #[.agg #[.slice NA nl nc,.int .u8 (k:Int),.int .u64 (n:Int),.string t,.slice VA vl vc,.int .u8 (code:Int),.bool bb,.slice KA kl kc,.complex .f64 (fb re) (fb im)]] w (zaj (decide (t.size≤255)) w):=by
 obtain⟨b,hb⟩:∃ b,decide (t.size≤255)=b:=⟨_,rfl⟩;have hd:decide ((t.size:Int)≤255)=b:=by rw[←hb,Bool.eq_iff_iff];simp;omega
 rw[hb];clear hb;go_enter func86,ntmps86;go_wp2;go_ret;exact⟨rfl,(za _ _)⟩
theorem znn (h:re < 2 ^ 50)(h':im < 2 ^ 50):Calls prog 87 #[.agg #[.slice NA nl nc,.int .u8 (k:Int),.int .u64 (n:Int),.string t,.slice VA vl vc,.int .u8 (code:Int),.bool bb,.slice KA kl kc,.complex .f64 (fb re) (fb im)]] w (zaj (decide (1+re≤255)&&decide (im≤255)) w):=by
 have hB:Below w.heap.size w (w.alloc (.cells #[.slice NA nl nc,.int .u8 (k:Int),.int .u64 (n:Int),.string t,.slice VA vl vc,.int .u8 (code:Int),.bool bb,.slice KA kl kc,.complex .f64 (fb re) (fb im)] 88)):=(za _ _);have hX:=Bx.new w (.slice NA nl nc) (.int .u8 (k:Int)) (.int .u64 (n:Int)) (.string t) (.slice VA vl vc) (.int .u8 (code:Int)) (.bool bb) (.slice KA kl kc) (.complex .f64 (fb re) (fb im));have HC:∀ wx:World,Calls prog 85 #[.agg #[.slice NA nl nc,.int .u8 (k:Int),.int .u64 (n:Int),.string t,.slice VA vl vc,.int .u8 (code:Int),.bool bb,.slice KA kl kc,.complex .f64 (fb re) (fb im)]] wx (zcE im wx):=fun wx=>ze4 NA nl nc k n t VA vl vc code bb KA kl kc re im wx h';have HS:∀ wx:World,Calls prog 88 #[.agg #[.slice NA nl nc,.int .u8 (k:Int),.int .u64 (n:Int),.string t,.slice VA vl vc,.int .u8 (code:Int),.bool bb,.slice KA kl kc,.complex .f64 (fb re) (fb im)],.int .i64 1] wx (zcE (1+re) wx):=fun wx=>zgb NA nl nc k n t VA vl vc code bb KA kl kc re im 1 wx (by omega) h;obtain⟨Z,hZ⟩:∃ Z,1+re=Z:=⟨_,rfl⟩;simp only[hZ] at HS ⊢;obtain⟨b1,Ha⟩:∃ b,decide (Z≤255)=b:=⟨_,rfl⟩;have JU:decide ((Z:Int)≤255)=b1:=by rw[←Ha,Bool.eq_iff_iff];simp;omega
 obtain⟨b2,He⟩:∃ b,decide (im≤255)=b:=⟨_,rfl⟩;have kM:decide ((im:Int)≤255)=b2:=by rw[←He,Bool.eq_iff_iff];simp;omega
 rw[Ha,He];clear Ha He h h' hZ;have HX:=zaa hX;clear hX;cases b1
 ·go_enter func87,ntmps87;go_wp2_with (go_at_call 88;(with_reducible refine(HS _).mono ?_);rintro e w1 ⟨rfl,Ha⟩;obtain⟨c0,c1,c2',c3,c4,c5,c6,c7,c8,cf⟩:=(HX.out.call Ha).all;have gH:=zad hB Ha);go_ret;exact⟨rfl,gH⟩
 ·go_enter func87,ntmps87;go_wp2_with (first
   | (go_at_call 88;(with_reducible refine(HS _).mono ?_);rintro e w1 ⟨rfl,Ha⟩;obtain⟨c0,c1,c2',c3,c4,c5,c6,c7,c8,cf⟩:=(HX.out.call Ha).all;have gH:=zad hB Ha)
   | (go_at_call 85;(with_reducible refine(HC _).mono ?_);rintro e w2 ⟨rfl,He⟩;have G5:=zad gH He))
  go_ret;exact⟨rfl,G5⟩
theorem zpX:Calls prog 89 #[.agg #[.slice NA nl nc,.int .u8 (k:Int),.int .u64 (n:Int),.string t,.slice VA vl vc,.int .u8 (code:Int),.bool bb,.slice KA kl kc,.complex .f64 (fb re) (fb im)]] w (zaj (decide (n=sg1 n)) w):=by
 have HS:∀ wx:World,Calls prog 90 #[.int .u64 (n:Int),.int .i64 1] wx fun e w'=>e=.returned (.int .u64 (sg1 n:Nat))∧w'=wx:=fun wx=>zrF n wx;obtain⟨S,hS⟩:∃ S,sg1 n=S:=⟨_,rfl⟩;simp only[hS] at HS ⊢;obtain⟨b,hb⟩:∃ b,decide (n=S)=b:=⟨_,rfl⟩;have hd:((n:Int)==(S:Int))=b:=by rw[←hb,Bool.eq_iff_iff];simp;omega
 rw[hb];clear hb hS;go_enter func89,ntmps89;go_wp2_with fail;go_quiet ((go_at_call 90;refine Calls.quiet_of_same (HS _)));go_wp2;go_ret;exact⟨rfl,below_drewN ((za _ _)) _⟩
theorem zno (m g:Nat)(hc:w.cell? ⟨g,0,none⟩=some (.int .u64 (m:Int)))(hg:g < w.heap.size):Calls prog 92 #[.agg #[.slice NA nl nc,.int .u8 (k:Int),.int .u64 (n:Int),.string t,.slice VA vl vc,.int .u8 (code:Int),.bool bb,.slice KA kl kc,.complex .f64 (fb re) (fb im)],.pointer (some ⟨g,0,none⟩)] w (zaj (decide (n=m)) w):=by
 obtain⟨b,hb⟩:∃ b,decide (n=m)=b:=⟨_,rfl⟩;have hd:((n:Int)==(m:Int))=b:=by rw[←hb,Bool.eq_iff_iff];simp;omega
 have xX:(w.alloc (.cells #[.slice NA nl nc,.int .u8 (k:Int),.int .u64 (n:Int),.string t,.slice VA vl vc,.int .u8 (code:Int),.bool bb,.slice KA kl kc,.complex .f64 (fb re) (fb im)] 88)).cell? ⟨g,0,none⟩=some (.int .u64 (m:Int)):=(((Below.refl w.heap.size w).alloc zab _).cell (p:=⟨g,0,none⟩) hg).trans hc;rw[hb];clear hb;go_enter func92,ntmps92;go_wp2;go_ret;exact⟨rfl,(za _ _)⟩
theorem znp (m g:Nat)(hc:w.cell? ⟨g,0,none⟩=some (.int .u64 (m:Int)))(hg:g < w.heap.size):Calls prog 94 #[.agg #[.slice NA nl nc,.int .u8 (k:Int),.int .u64 (n:Int),.string t,.slice VA vl vc,.int .u8 (code:Int),.bool bb,.slice KA kl kc,.complex .f64 (fb re) (fb im)],.pointer (some ⟨g,0,none⟩)] w (zaj (decide (n≤m)) w):=by
 have xX:(w.alloc (.cells #[.slice NA nl nc,.int .u8 (k:Int),.int .u64 (n:Int),.string t,.slice VA vl vc,.int .u8 (code:Int),.bool bb,.slice KA kl kc,.complex .f64 (fb re) (fb im)] 88)).cell? ⟨g,0,none⟩=some (.int .u64 (m:Int)):=(((Below.refl w.heap.size w).alloc zab _).cell (p:=⟨g,0,none⟩) hg).trans hc;go_enter func94,ntmps94;go_wp2;go_ret;exact⟨rfl,(za _ _)⟩
end
end Enc
end Go.Proofs.YtbbbanfggcediaaGreatDoor
