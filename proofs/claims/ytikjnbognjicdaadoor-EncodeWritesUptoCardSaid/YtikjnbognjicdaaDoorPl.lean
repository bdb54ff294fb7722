/-
  How a value is going to be laid, as plain mathematics: plans, how long they are, the bytes that they lay, which codes can tell which. No Go in it.
-/
import Derived.Test.YtikjnbognjicdaaDoorVal
import Derived.Test.YtikjnbognjicdaaDoorOctL
namespace Go.Proofs.YtikjnbognjicdaaDoor.Enc
open Go.Proofs.YtikjnbognjicdaaDoor.Val V

/-- A plan: what it is called, what it is, its code, is it bare, its kids, how many bytes these have, how many there are. -/
inductive Pl where
  | mk (names : List Pl) (k n : Nat) (t : ByteArray) (code : Nat) (bare : Bool) (kids : List Pl) (re im : Nat)
namespace Pl
def names : Pl → List Pl | .mk a _ _ _ _ _ _ _ _ => a
def kind : Pl → Nat | .mk _ k _ _ _ _ _ _ _ => k
def num : Pl → Nat | .mk _ _ n _ _ _ _ _ _ => n
def text : Pl → ByteArray | .mk _ _ _ t _ _ _ _ _ => t
def code : Pl → Nat | .mk _ _ _ _ c _ _ _ _ => c
def bare : Pl → Bool | .mk _ _ _ _ _ b _ _ _ => b
def kids : Pl → List Pl | .mk _ _ _ _ _ _ a _ _ => a
def re : Pl → Nat | .mk _ _ _ _ _ _ _ r _ => r
def im : Pl → Nat | .mk _ _ _ _ _ _ _ _ r => r
end Pl
open Pl

/-- The bytes of a text. -/
def tb (t : ByteArray) : List Nat := t.data.toList.map UInt8.toNat
theorem tb_length (t : ByteArray) : (tb t).length = t.size := by simp [tb]
theorem tb_byte (t : ByteArray) : ∀ x ∈ tb t, x < 256 := by
  intro x hx
  simp only [tb, List.mem_map] at hx
  obtain ⟨c, _, rfl⟩ := hx
  exact c.toNat_lt

/-- How many bytes are data. -/
def dlong (k : Nat) (t : ByteArray) (c re : Nat) : Nat :=
  if wid c = 0 then 0 else if k < 19 then wid c else if k ≤ 21 then wid c + t.size else wid c + (wid c + re)
mutual
def long : Pl → Nat
  | .mk ns k _ t c b _ re _ => if b then dlong k t c re else longN ns + dlong k t c re + 1
def longN : List Pl → Nat
  | [] => 0
  | p :: r => 1 + long p + longN r
end
def longK : List Pl → Nat
  | [] => 0
  | p :: r => long p + longK r
/-- The data, what kids lay given. -/
def dlay (k n : Nat) (t : ByteArray) (c re im : Nat) (ks : List Nat) : List Nat :=
  if wid c = 0 then [] else if k < 15 then be n (wid c) else if k < 19 then tb t else if k ≤ 21 then be t.size (wid c) ++ tb t else be (wid c + re) (wid c) ++ be im (wid c) ++ ks
mutual
def lay : Pl → List Nat
  | .mk ns k n t c b ks re im => if b then dlay k n t c re im (layK ks) else layN ns ++ (c :: dlay k n t c re im (layK ks))
def layN : List Pl → List Nat
  | [] => []
  | p :: r => 0 :: (lay p ++ layN r)
def layK : List Pl → List Nat
  | [] => []
  | p :: r => lay p ++ layK r
end

/-- Which values a code can tell. -/
inductive Can where
  | all | just (n : Nat) | upto (n : Nat) | short | near | none_ | small
def can : Can → Pl → Bool
  | .all, _ => true
  | .just n, p => decide (p.num = n)
  | .upto n, p => decide (p.num ≤ n)
  | .short, p => decide (p.text.size ≤ 255)
  | .near, p => decide (p.num = sg1 p.num)
  | .none_, p => decide (p.im = 0)
  | .small, p => decide (1 + p.re ≤ 255) && decide (p.im ≤ 255)
/-- The codes of a kind, each with what it can tell. -/
def chs : Nat → List (Nat × Can)
  | 1 => [(64, .all)]
  | 2 => [(65, .just 1), (66, .just 0), (86, .all)]
  | 3 => [(80, .all)]
  | 4 => [(96, .all)]
  | 5 => [(67, .just 0), (82, .upto 255), (112, .all)]
  | 6 => [(68, .just 0), (83, .upto 255), (128, .all)]
  | 7 => [(81, .all)]
  | 8 => [(97, .all)]
  | 9 => [(84, .near), (113, .all)]
  | 10 => [(85, .near), (129, .all)]
  | 11 => [(114, .all)]
  | 12 => [(130, .all)]
  | 13 => [(115, .all)]
  | 14 => [(131, .all)]
  | 15 => [(152, .all)]
  | 16 => [(116, .all)]
  | 17 => [(132, .all)]
  | 18 => [(148, .all)]
  | 19 => [(160, .short), (176, .all)]
  | 20 => [(161, .short), (177, .all)]
  | 21 => [(163, .short), (179, .all)]
  | 22 => [(69, .none_), (192, .small), (208, .all)]
  | 23 => [(193, .small), (209, .all)]
  | 24 => [(224, .small), (240, .all)]
  | _ => []
/-- The first code that can tell all. -/
def pick (cs : List (Nat × Can)) (l : List Pl) : Nat :=
  match cs with
  | [] => 0
  | (c, f) :: r => if l.all (can f) then c else pick r l
def first (l : List Pl) : Nat := match l with
  | [] => 0
  | p :: _ => pick (chs p.kind) l

def null : Pl := .mk [] 1 0 ⟨#[]⟩ 64 false [] 0 0
def setc (c : Nat) (b : Bool) : Pl → Pl
  | .mk ns k n t _ _ ks re im => .mk ns k n t c b ks re im
/-- An array's kids by one code. -/
def alikeP : List Pl → List Pl
  | [] => [null]
  | p :: r => setc (first (p :: r)) false p :: r.map (setc (first (p :: r)) true)
/-- A plan without its code. -/
def raw (ns : List Pl) (k n : Nat) (t : ByteArray) (m : Nat) (ks : List Pl) : Pl := .mk ns k n t 0 false ks (longK ks) m
/-- .. with it. -/
def fin (ns : List Pl) (k n : Nat) (t : ByteArray) (m : Nat) (ks : List Pl) : Pl := .mk ns k n t (first [raw ns k n t m ks]) false ks (longK ks) m
def descP : List Pl → Pl
  | x :: .mk ns k n t c b ks re im :: _ => .mk (x :: ns) k n t c b ks re im
  | _ => null
mutual
def plan : V → Pl
  | .mk k n t ks => if k = 25 then descP (planL ks) else fin [] k n t ks.length (if k = 24 then alikeP (planL ks) else planL ks)
def planL : List V → List Pl
  | [] => []
  | v :: r => plan v :: planL r
end
theorem planL_length : ∀ l : List V, (planL l).length = l.length
  | [] => rfl
  | _ :: r => by simp [planL, planL_length r]
theorem planL_append : ∀ a b : List V, planL (a ++ b) = planL a ++ planL b
  | [], _ => rfl
  | x :: a, b => by simp [planL, planL_append a b]
theorem planL_map : ∀ l : List V, planL l = l.map plan
  | [] => rfl
  | _ :: l => by simp [planL, planL_map l]
theorem longK_append : ∀ a b : List Pl, longK (a ++ b) = longK a + longK b
  | [], _ => by simp [longK]
  | x :: a, b => by simp [longK, longK_append a b]; omega
theorem longN_append : ∀ a b : List Pl, longN (a ++ b) = longN a + longN b
  | [], _ => by simp [longN]
  | x :: a, b => by simp [longN, longN_append a b]; omega
theorem layN_append : ∀ a b : List Pl, layN (a ++ b) = layN a ++ layN b
  | [], _ => by simp [layN]
  | x :: a, b => by simp [layN, layN_append a b]
theorem layK_append : ∀ a b : List Pl, layK (a ++ b) = layK a ++ layK b
  | [], _ => by simp [layK]
  | x :: a, b => by simp [layK, layK_append a b]
/-- A first code does not hang on what a plan is called, nor on its code. -/
theorem can_names (f : Can) (ns ns' : List Pl) (k n : Nat) (t : ByteArray) (c c' : Nat) (b b' : Bool) (ks ks' : List Pl) (re im : Nat) : can f (.mk ns k n t c b ks re im) = can f (.mk ns' k n t c' b' ks' re im) := by
  cases f <;> rfl
theorem pick_names (cs : List (Nat × Can)) (ns ns' : List Pl) (k n : Nat) (t : ByteArray) (c c' : Nat) (b b' : Bool) (ks ks' : List Pl) (re im : Nat) : pick cs [.mk ns k n t c b ks re im] = pick cs [.mk ns' k n t c' b' ks' re im] := by
  induction cs with
  | nil => rfl
  | cons x r ih => simp only [pick, List.all_cons, List.all_nil, can_names x.2 ns ns' k n t c c' b b' ks ks' re im, ih]; rfl
theorem first_names (ns ns' : List Pl) (k n : Nat) (t : ByteArray) (c c' : Nat) (b b' : Bool) (ks ks' : List Pl) (re im : Nat) : first [.mk ns k n t c b ks re im] = first [.mk ns' k n t c' b' ks' re im] := pick_names _ _ _ _ _ _ _ _ _ _ _ _ _ _

mutual
/-- Down from what is called something: what it is called. -/
def called : V → List V
  | .mk k _ _ ks => if k = 25 then calledL ks else []
def calledL : List V → List V
  | x :: r => x :: calledT r
  | [] => []
def calledT : List V → List V
  | y :: _ => called y
  | [] => []
end
mutual
/-- .. and what it is. -/
def core : V → V
  | .mk k n t ks => if k = 25 then coreL ks else .mk k n t ks
def coreL : List V → V
  | _ :: r => coreT r
  | [] => .mk 0 0 ⟨#[]⟩ []
def coreT : List V → V
  | y :: _ => core y
  | [] => .mk 0 0 ⟨#[]⟩ []
end
theorem called_desc (n : Nat) (t : ByteArray) (x y : V) : called (.mk 25 n t [x, y]) = x :: called y := by rw [called, if_pos rfl, calledL, calledT]
theorem core_desc (n : Nat) (t : ByteArray) (x y : V) : core (.mk 25 n t [x, y]) = core y := by rw [core, if_pos rfl, coreL, coreT]
theorem called_not {k n : Nat} {t : ByteArray} {ks : List V} (h : k ≠ 25) : called (.mk k n t ks) = [] := by rw [called, if_neg h]
theorem core_not {k n : Nat} {t : ByteArray} {ks : List V} (h : k ≠ 25) : core (.mk k n t ks) = .mk k n t ks := by rw [core, if_neg h]

mutual
def rank : Pl → Nat
  | .mk ns _ _ _ _ _ ks _ _ => rankL ns + rankL ks + 1
def rankL : List Pl → Nat
  | [] => 0
  | p :: r => rank p + rankL r
end
/-- All that a plan tells is within M, and its codes are codes. -/
def FineP (M : Nat) (k : Nat) (t : ByteArray) (c re im m : Nat) : Prop := 64 ≤ c ∧ c < 256 ∧ t.size ≤ M ∧ re ≤ M ∧ im ≤ M ∧ m ≤ M ∧ (wid c ≤ 8 ∨ (15 ≤ k ∧ k < 19))
mutual
def Fine (M : Nat) : Pl → Prop
  | .mk ns k _ t c _ ks re im => FineP M k t c re im (longN ns) ∧ ks.length ≤ M ∧ FineL M ns ∧ FineL M ks
def FineL (M : Nat) : List Pl → Prop
  | [] => True
  | p :: r => Fine M p ∧ FineL M r
end
theorem fineL_at {M : Nat} : ∀ {l : List Pl} {i : Nat} {p : Pl}, FineL M l → l[i]? = some p → Fine M p
  | [], _, _, _, h => by simp at h
  | x :: l, 0, p, hf, h => by
    simp at h
    subst h
    exact hf.1
  | x :: l, i + 1, p, hf, h => fineL_at (i := i) hf.2 (by simpa using h)
theorem fineL_mk {M : Nat} : ∀ {l : List Pl}, (∀ p ∈ l, Fine M p) → FineL M l
  | [], _ => trivial
  | x :: l, h => ⟨h x (by simp), fineL_mk fun p hp => h p (by simp [hp])⟩
theorem fineL_mem {M : Nat} : ∀ {l : List Pl}, FineL M l → ∀ p ∈ l, Fine M p
  | [], _, _, hp => by cases hp
  | x :: l, h, p, hp => by
    rcases List.mem_cons.1 hp with rfl | hp
    · exact h.1
    · exact fineL_mem h.2 p hp
theorem rankL_at : ∀ {l : List Pl} {i : Nat} {p : Pl}, l[i]? = some p → rank p ≤ rankL l
  | [], _, _, h => by simp at h
  | x :: l, 0, p, h => by
    simp at h
    subst h
    simp [rankL]
  | x :: l, i + 1, p, h => by
    have := rankL_at (l := l) (i := i) (p := p) (by simpa using h)
    simp [rankL]
    omega
theorem takeP_snoc {l : List Pl} {i : Nat} {v : Pl} (h : l[i]? = some v) : l.take (i + 1) = l.take i ++ [v] := by
  rw [List.take_add_one, h]; rfl
theorem longN_take {l : List Pl} {i : Nat} {p : Pl} (h : l[i]? = some p) : longN (l.take (i + 1)) = longN (l.take i) + (1 + long p) := by
  rw [takeP_snoc h, longN_append]; simp [longN]
theorem longK_take {l : List Pl} {i : Nat} {p : Pl} (h : l[i]? = some p) : longK (l.take (i + 1)) = longK (l.take i) + long p := by
  rw [takeP_snoc h, longK_append]; simp [longK]
theorem layN_take {l : List Pl} {i : Nat} {p : Pl} (h : l[i]? = some p) : layN (l.take (i + 1)) = layN (l.take i) ++ (0 :: lay p) := by
  rw [takeP_snoc h, layN_append]; simp [layN]
theorem layK_take {l : List Pl} {i : Nat} {p : Pl} (h : l[i]? = some p) : layK (l.take (i + 1)) = layK (l.take i) ++ lay p := by
  rw [takeP_snoc h, layK_append]; simp [layK]
theorem longN_take_le (l : List Pl) (i : Nat) : longN (l.take i) ≤ longN l := by
  have := longN_append (l.take i) (l.drop i); rw [List.take_append_drop] at this; omega
theorem longK_take_le (l : List Pl) (i : Nat) : longK (l.take i) ≤ longK l := by
  have := longK_append (l.take i) (l.drop i); rw [List.take_append_drop] at this; omega
theorem layK_take_le (l : List Pl) (i : Nat) : (layK (l.take i)).length ≤ (layK l).length := by
  have := congrArg List.length (layK_append (l.take i) (l.drop i)); rw [List.take_append_drop, List.length_append] at this; omega
theorem layN_take_le (l : List Pl) (i : Nat) : (layN (l.take i)).length ≤ (layN l).length := by
  have := congrArg List.length (layN_append (l.take i) (l.drop i)); rw [List.take_append_drop, List.length_append] at this; omega
theorem longN_len (l : List Pl) : l.length ≤ longN l := by
  induction l with
  | nil => simp
  | cons x l ih => simp [longN]; omega
theorem wid_le (c : Nat) : wid c ≤ 16 := by
  unfold wid
  split
  · omega
  · split
    · have : c / 16 - 5 ≤ 4 := by omega
      exact Nat.pow_le_pow_right (by omega) this
    · split <;> omega
theorem dlong_le (k : Nat) {t : ByteArray} (c : Nat) {re M : Nat} (ht : t.size ≤ M) (hr : re ≤ M) : dlong k t c re ≤ 32 + M := by
  have := wid_le c
  unfold dlong
  split
  · omega
  · split
    · omega
    · split <;> omega
end Go.Proofs.YtikjnbognjicdaaDoor.Enc
