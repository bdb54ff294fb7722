/-
  Windows as plain mathematics: a window, what each call leaves and answers; two windows that meet, with what is on its way to each. No program, no condition.
-/
import Derived.WalkKit
namespace Go.Proofs.Ytppcfkcnaaflgaa.Wn

/-- A window: its grant, its next out, its next in and whether that is known, what is left either way. -/
structure Wn where
  most : Nat
  no : Nat
  ni : Nat
  known : Bool
  out : Nat
  inn : Nat
def newW (g : Nat) : Wn := ⟨max 1 (min g 256), 0, 0, false, 0, max 1 (min g 256)⟩
def begW (w : Wn) (n i : Nat) : Wn := { w with ni := n, known := true, out := min i 256 }
def sentB (w : Wn) : Bool := decide (0 < w.out)
def sentN (w : Wn) : Nat := if 0 < w.out then w.no else 0
def sentW (w : Wn) : Wn := if 0 < w.out then { w with out := w.out - 1, no := (w.no + 1) % 4294967296 } else w
def gotB (w : Wn) : Bool := decide (0 < w.inn) && w.known
def gotW (w : Wn) : Wn := if gotB w = true then { w with inn := w.inn - 1, ni := (w.ni + 1) % 4294967296 } else w
/-- What a flow leaves to be sent. -/
def leftN (N : Int) (i no : Nat) : Nat := if ((max N 0).toNat + i + (4294967296 - no)) % 4294967296 < 2147483648 then min (((max N 0).toNat + i + (4294967296 - no)) % 4294967296) 256 else 0
def toldW (w : Wn) (N : Int) (i o : Nat) : Wn := { w with out := leftN N i w.no, ni := if w.known then w.ni else o, known := true }
def needB (w : Wn) : Bool := decide (w.inn ≤ w.most / 2)
def grantW (w : Wn) : Wn := { w with inn := w.most }
/-- A window as it may be. -/
structure Ok (w : Wn) : Prop where
  m1 : 1 ≤ w.most
  m2 : w.most ≤ 256
  no : w.no < 4294967296
  ni : w.ni < 4294967296
  out : w.out ≤ 256
  inn : w.inn ≤ w.most
theorem Ok.new (g : Nat) : Ok (newW g) := ⟨by simp only [newW]; omega, by simp only [newW]; omega, by simp only [newW]; omega, by simp only [newW]; omega, by simp only [newW]; omega, by simp only [newW]; omega⟩
theorem Ok.beg {w : Wn} (h : Ok w) (n i : Nat) (hn : n < 4294967296) : Ok (begW w n i) := ⟨h.m1, h.m2, h.no, hn, by simp only [begW]; omega, h.inn⟩
theorem Ok.sent {w : Wn} (h : Ok w) : Ok (sentW w) := by
  unfold sentW
  split
  · exact ⟨h.m1, h.m2, by simp only; omega, h.ni, by have := h.out; simp only; omega, h.inn⟩
  · exact h
theorem Ok.got {w : Wn} (h : Ok w) : Ok (gotW w) := by
  unfold gotW
  split
  · exact ⟨h.m1, h.m2, h.no, by simp only; omega, h.out, by have := h.inn; simp only; omega⟩
  · exact h
theorem left_le (N : Int) (i no : Nat) : leftN N i no ≤ 256 := by unfold leftN; split <;> omega
theorem Ok.told {w : Wn} (h : Ok w) (N : Int) (i o : Nat) (ho : o < 4294967296) : Ok (toldW w N i o) := ⟨h.m1, h.m2, h.no, by have := h.ni; simp only [toldW]; split <;> omega, left_le _ _ _, h.inn⟩
theorem Ok.grant {w : Wn} (h : Ok w) : Ok (grantW w) := ⟨h.m1, h.m2, h.no, h.ni, h.out, Nat.le_refl _⟩

/-- What is on its way: a transfer, or a flow with what it says. -/
structure It where
  flow : Bool
  n : Nat
  g : Nat
  o : Nat
def und : List It → Nat
  | [] => 0
  | x :: q => (if x.flow then 0 else 1) + und q
theorem und_app (p q : List It) : und (p ++ q) = und p + und q := by
  induction p with
  | nil => simp [und]
  | cons x p ih => simp only [List.cons_append, und, ih]; omega
/-- Where it leads, of a flow. -/
def lim (x : It) : Nat := x.n + x.g
/-- Flows on their way lead further, one by one, from a on, and not beyond b. -/
def Rise (a b : Nat) : List It → Prop
  | [] => a ≤ b
  | x :: q => if x.flow = true then a ≤ lim x ∧ Rise (lim x) b q else Rise a b q
theorem Rise.le {a b : Nat} {q : List It} (h : Rise a b q) : a ≤ b := by
  induction q generalizing a with
  | nil => exact h
  | cons x q ih =>
    unfold Rise at h
    split at h
    · have := ih h.2
      omega
    · exact ih h
theorem Rise.up {a b b' : Nat} {q : List It} (h : Rise a b q) (hb : b ≤ b') : Rise a b' q := by
  induction q generalizing a with
  | nil => exact Nat.le_trans h hb
  | cons x q ih =>
    unfold Rise at h ⊢
    split at h <;> rename_i hx
    · rw [if_pos hx]; exact ⟨h.1, ih h.2⟩
    · rw [if_neg hx]; exact ih h
theorem Rise.plain {a b : Nat} {q : List It} {x : It} (h : Rise a b q) (hx : x.flow = false) : Rise a b (q ++ [x]) := by
  induction q generalizing a with
  | nil => simpa [Rise, hx] using h
  | cons y q ih =>
    rw [List.cons_append]
    unfold Rise at h ⊢
    split at h <;> rename_i hy
    · rw [if_pos hy]; exact ⟨h.1, ih h.2⟩
    · rw [if_neg hy]; exact ih h
theorem Rise.flow {a b : Nat} {q : List It} {x : It} (h : Rise a b q) (hx : x.flow = true) (hl : b ≤ lim x) : Rise a (lim x) (q ++ [x]) := by
  induction q generalizing a with
  | nil => simp only [List.nil_append, Rise, hx, if_true]; exact ⟨Nat.le_trans h hl, Nat.le_refl _⟩
  | cons y q ih =>
    rw [List.cons_append]
    unfold Rise at h ⊢
    split at h <;> rename_i hy
    · rw [if_pos hy]; exact ⟨h.1, ih h.2⟩
    · rw [if_neg hy]; exact ih h
/-- One way of two windows that meet: s sends, r takes; qr is on its way to r, qs to s. -/
structure Dir (s r : Wn) (qr qs : List It) : Prop where
  no : s.no = r.ni + und qr
  rise : Rise (s.no + s.out) (r.ni + r.inn) qs
  told : ∀ x ∈ qs, x.flow = true → x.g ≤ 256 ∧ x.n ≤ r.ni
section
variable {s r : Wn} {qr qs q : List It} {x : It}
/-- What s may send, and what is on its way to r, are together never more than r takes. -/
theorem Dir.fits (h : Dir s r qr qs) : s.out + und qr ≤ r.inn := by have := h.rise.le; have := h.no; omega
theorem Dir.sends (h : Dir s r qr qs) (hb : sentB s = true) (hx : x.flow = false) (hn : s.no + 1 < 4294967296) : Dir (sentW s) r (qr ++ [x]) qs := by
  have ho : 0 < s.out := by simpa [sentB] using hb
  have e : sentW s = { s with out := s.out - 1, no := s.no + 1 } := by simp only [sentW, if_pos ho, Nat.mod_eq_of_lt hn]
  rw [e]
  refine ⟨?_, ?_, h.told⟩
  · simp only [und_app, und, hx]; have := h.no; simp; omega
  · have e2 : s.no + 1 + (s.out - 1) = s.no + s.out := by omega
    show Rise (s.no + 1 + (s.out - 1)) (r.ni + r.inn) qs
    rw [e2]; exact h.rise
theorem Dir.sent (h : Dir r s qs qr) (hx : x.flow = false) : Dir r (sentW s) qs (qr ++ [x]) := by
  have e1 : (sentW s).ni = s.ni := by unfold sentW; split <;> rfl
  have e2 : (sentW s).inn = s.inn := by unfold sentW; split <;> rfl
  refine ⟨by rw [e1]; exact h.no, by rw [e1, e2]; exact h.rise.plain hx, fun y hy hf => ?_⟩
  rw [e1]
  rcases List.mem_append.1 hy with hy | hy
  · exact h.told y hy hf
  · rw [List.mem_singleton.1 hy, hx] at hf; cases hf
theorem Dir.grants (h : Dir s r qr qs) (ok : Ok r) (hx : x = ⟨true, r.ni, r.most, r.no⟩) : Dir s (grantW r) qr (qs ++ [x]) := by
  have hl : lim x = r.ni + r.most := by rw [hx]; rfl
  refine ⟨h.no, ?_, fun y hy hf => ?_⟩
  · show Rise (s.no + s.out) (r.ni + r.most) (qs ++ [x])
    rw [← hl]
    exact h.rise.flow (by rw [hx]) (by rw [hl]; have := ok.inn; omega)
  · rcases List.mem_append.1 hy with hy | hy
    · exact h.told y hy hf
    · rw [List.mem_singleton.1 hy, hx]; exact ⟨ok.m2, Nat.le_refl _⟩
theorem Dir.granted (h : Dir r s qs qr) (hx : x = ⟨true, r.ni, r.most, r.no⟩) : Dir (grantW r) s (qs ++ [x]) qr :=
  ⟨by rw [und_app]; simp [und, hx]; exact h.no, h.rise, h.told⟩
theorem Dir.may (h : Dir s r (x :: qr) qs) (hx : x.flow = false) (hk : r.known = true) : gotB r = true := by
  have h1 := h.fits
  simp [und, hx] at h1
  simp [gotB, hk]
  omega
theorem Dir.comes (h : Dir s r (x :: qr) qs) (hx : x.flow = false) (hk : r.known = true) (hn : r.ni + 1 < 4294967296) : Dir s (gotW r) qr qs := by
  have hg := h.may hx hk
  have hi : 0 < r.inn := by simp [gotB, hk] at hg; omega
  have e : gotW r = { r with inn := r.inn - 1, ni := r.ni + 1 } := by simp only [gotW, if_pos hg, Nat.mod_eq_of_lt hn]
  rw [e]
  refine ⟨?_, ?_, fun y hy hf => ?_⟩
  · have := h.no; simp [und, hx] at this; simp; omega
  · have e2 : r.ni + 1 + (r.inn - 1) = r.ni + r.inn := by omega
    show Rise (s.no + s.out) (r.ni + 1 + (r.inn - 1)) qs
    rw [e2]; exact h.rise
  · have := h.told y hy hf
    exact ⟨this.1, Nat.le_succ_of_le this.2⟩
theorem Dir.came (h : Dir r s qs (x :: qr)) (hx : x.flow = false) : Dir (gotW r) s qs qr := by
  have e1 : (gotW r).no = r.no := by unfold gotW; split <;> rfl
  have e2 : (gotW r).out = r.out := by unfold gotW; split <;> rfl
  refine ⟨by rw [e1]; exact h.no, ?_, fun y hy hf => h.told y (List.mem_cons_of_mem _ hy) hf⟩
  rw [e1, e2]
  have := h.rise
  unfold Rise at this
  rwa [if_neg (by simp [hx])] at this
theorem left_eq {n g no : Nat} (h1 : no ≤ n + g) (h2 : n + g ≤ no + 256) (h3 : n + g < 4294967296) : leftN (n : Int) g no = n + g - no := by
  have e : ((max (n : Int) 0).toNat + g + (4294967296 - no)) % 4294967296 = n + g - no := by
    have : (max (n : Int) 0).toNat = n := by omega
    rw [this]
    omega
  unfold leftN
  rw [e, if_pos (by omega)]
  omega
theorem Dir.tells (h : Dir r s qs (x :: qr)) (hx : x.flow = true) (hb : r.no + 300 < 4294967296) : Dir (toldW r (x.n : Int) x.g x.o) s qs qr := by
  have hr := h.rise
  unfold Rise at hr
  rw [if_pos hx] at hr
  have ht := h.told x (List.mem_cons_self ..) hx
  have hn := h.no
  have hl : leftN (x.n : Int) x.g r.no = x.n + x.g - r.no := left_eq (by have := hr.1; unfold lim at this; omega) (by omega) (by omega)
  refine ⟨hn, ?_, fun y hy hf => h.told y (List.mem_cons_of_mem _ hy) hf⟩
  show Rise (r.no + leftN (x.n : Int) x.g r.no) (s.ni + s.inn) qr
  rw [hl]
  have e : r.no + (x.n + x.g - r.no) = lim x := by have := hr.1; unfold lim at this ⊢; omega
  rw [e]
  exact hr.2
theorem Dir.tell (h : Dir s r (x :: qr) qs) (hx : x.flow = true) (hk : r.known = true) : Dir s (toldW r (x.n : Int) x.g x.o) qr qs := by
  have e : (toldW r (x.n : Int) x.g x.o).ni = r.ni := by simp [toldW, hk]
  refine ⟨?_, ?_, fun y hy hf => by rw [e]; exact h.told y hy hf⟩
  · rw [e]; have := h.no; simpa [und, hx] using this
  · rw [e]; exact h.rise
/-- Where all has come, and the other one grants, all of its grant may be sent. -/
theorem Dir.last (h : Dir s r [] qs) (ok : Ok r) (hb : s.no + 300 < 4294967296) (o : Nat) : (toldW s (r.ni : Int) r.most o).out = r.most := by
  have hn := h.no
  simp only [und, Nat.add_zero] at hn
  show leftN (r.ni : Int) r.most s.no = r.most
  rw [left_eq (by omega) (by have := ok.m2; omega) (by have := ok.m2; omega)]
  omega
theorem Dir.begin (g h : Nat) : Dir (begW (newW g) 0 (newW h).inn) (begW (newW h) 0 (newW g).inn) [] [] :=
  ⟨rfl, by simp only [Rise, begW, newW]; omega, fun x hx => by cases hx⟩
end
end Go.Proofs.Ytppcfkcnaaflgaa.Wn
