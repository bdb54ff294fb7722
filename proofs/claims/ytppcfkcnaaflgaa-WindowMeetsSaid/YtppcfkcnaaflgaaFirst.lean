/-
  Contracts of utf.Char and the document's Char, utf.further, utf.lead: no condition but that the table of package utf is as its text lays it.
  Contract of utf.first: the character with which bytes begin, and how many they are; 0 and 0, if they begin with none. Memory that was there stays.
-/
import Derived.Test.YtppcfkcnaaflgaaMem
import Derived.LoopN
import Derived.BigQuiet
import Derived.Deep.QuietTactic
import Derived.Laws.BitsAllLaws
import Derived.ScopeJumps
import Derived.WalkMore
namespace Go.Proofs.Ytppcfkcnaaflgaa.Utf
open Go.RowKit

theorem an (o m : Nat) (ho : o < 256) (hm : m < 256) : bits .andNot .u8 (o : Int) (m : Int) = ((o &&& (255 - m) : Nat) : Int) := u8_andNot_nat o m ho hm
theorem aw (o m : Nat) (ho : o < 256) (hm : m < 256) : bits .and .u8 (o : Int) (m : Int) = ((o &&& m : Nat) : Int) := u8_and_nat o m ho hm
theorem fa0 : ∀ o : Fin 256, ((o.val &&& (255 - 127)) == 0) = decide (o.val < 128) := by decide +kernel
theorem fa1 : ∀ o : Fin 256, ((o.val &&& (255 - 31)) == 192) = (decide (192 ≤ o.val) && decide (o.val < 224)) := by decide +kernel
theorem fa2 : ∀ o : Fin 256, ((o.val &&& (255 - 15)) == 224) = (decide (224 ≤ o.val) && decide (o.val < 240)) := by decide +kernel
theorem fa3 : ∀ o : Fin 256, ((o.val &&& (255 - 7)) == 240) = (decide (240 ≤ o.val) && decide (o.val < 248)) := by decide +kernel
theorem fm0 : ∀ o : Fin 256, o.val < 128 → (o.val &&& 127) = o.val := by decide +kernel
theorem fm1 : ∀ o : Fin 256, 192 ≤ o.val → o.val < 224 → (o.val &&& 31) = o.val - 192 := by decide +kernel
theorem fm2 : ∀ o : Fin 256, 224 ≤ o.val → o.val < 240 → (o.val &&& 15) = o.val - 224 := by decide +kernel
theorem fm3 : ∀ o : Fin 256, 240 ≤ o.val → o.val < 248 → (o.val &&& 7) = o.val - 240 := by decide +kernel
theorem eqb (a b : Nat) : (((a : Nat) : Int) == ((b : Nat) : Int)) = (a == b) := by
  rw [Bool.eq_iff_iff]; simp; omega
theorem ea0 (o : Nat) (h : o < 256) : (bits .andNot .u8 (o : Int) 127 == 0) = decide (o < 128) := by
  rw [show (127 : Int) = ((127 : Nat) : Int) from rfl, an o 127 h (by omega), show (0 : Int) = ((0 : Nat) : Int) from rfl, eqb]; exact fa0 ⟨o, h⟩
theorem ea1 (o : Nat) (h : o < 256) : (bits .andNot .u8 (o : Int) 31 == 192) = (decide (192 ≤ o) && decide (o < 224)) := by
  rw [show (31 : Int) = ((31 : Nat) : Int) from rfl, an o 31 h (by omega), show (192 : Int) = ((192 : Nat) : Int) from rfl, eqb]; exact fa1 ⟨o, h⟩
theorem ea2 (o : Nat) (h : o < 256) : (bits .andNot .u8 (o : Int) 15 == 224) = (decide (224 ≤ o) && decide (o < 240)) := by
  rw [show (15 : Int) = ((15 : Nat) : Int) from rfl, an o 15 h (by omega), show (224 : Int) = ((224 : Nat) : Int) from rfl, eqb]; exact fa2 ⟨o, h⟩
theorem ea3 (o : Nat) (h : o < 256) : (bits .andNot .u8 (o : Int) 7 == 240) = (decide (240 ≤ o) && decide (o < 248)) := by
  rw [show (7 : Int) = ((7 : Nat) : Int) from rfl, an o 7 h (by omega), show (240 : Int) = ((240 : Nat) : Int) from rfl, eqb]; exact fa3 ⟨o, h⟩

theorem newly {w w' : World} (h : Below w.heap.size w w') (o : Obj) : Below w.heap.size w (w'.alloc o) := h.alloc h.size o
theorem drewly {B : Nat} {w w' : World} (h : Below B w w') (k : Nat) : Below B w (w'.drewN k) := ⟨h.os, h.tape, h.output, h.size, h.block⟩

/-- What lead answers. -/
def leadv (o : Nat) : Value := match ld o with
  | none => .tuple #[.int .i64 0, .int .u32 0, .bool false]
  | some (n, c) => .tuple #[.int .i64 (n : Nat), .int .u32 (c : Nat), .bool true]
end Go.Proofs.Ytppcfkcnaaflgaa.Utf

namespace Go.Proofs.Ytppcfkcnaaflgaa.Utf
open Go.RowKit

theorem fc63 : ∀ x : Fin 256, ((x.val &&& (255 - 63)) == 128) = cont x.val := by decide +kernel
theorem fm63 : ∀ x : Fin 256, cont x.val = true → (x.val &&& 63) = x.val - 128 := by decide +kernel
theorem ne63 (x : Nat) (h : x < 256) : (bits .andNot .u8 (x : Int) 63 != 128) = !cont x := by
  have : (bits .andNot .u8 (x : Int) 63 == 128) = cont x := by
    rw [show (63 : Int) = ((63 : Nat) : Int) from rfl, an x 63 h (by omega), show (128 : Int) = ((128 : Nat) : Int) from rfl, eqb]; exact fc63 ⟨x, h⟩
  rw [bne, this]
theorem and63 (x : Nat) (h : x < 256) (hc : cont x = true) : bits .and .u8 (x : Int) 63 = ((x - 128 : Nat) : Int) := by
  rw [show (63 : Int) = ((63 : Nat) : Int) from rfl, aw x 63 h (by omega)]; exact congrArg Nat.cast (fm63 ⟨x, h⟩ hc)
theorem or6 (c y : Nat) (hc : c < 67108864) (hy : y < 64) : bits .or .u32 ((c : Int) * 64) (y : Int) = ((c * 64 + y : Nat) : Int) := by
  have e : (c : Int) * 64 = ((c * 64 : Nat) : Int) := by simp
  rw [e, u32_or_nat _ _ (by omega) (by omega), nat_join 6 (c * 64) y (by omega) hy]
theorem cont_lt {x : Nat} (h : cont x = true) : 128 ≤ x ∧ x < 192 := by simpa [cont] using h

/-- What first answers. -/
def fv (l : List Nat) : Value := match dec l with
  | none => .tuple #[.int .u32 0, .int .i64 0]
  | some (c, m) => .tuple #[.int .u32 (c : Nat), .int .i64 (m : Nat)]

theorem fv_none {l : List Nat} (h : dec l = none) : fv l = .tuple #[.int .u32 0, .int .i64 0] := by simp [fv, h]
theorem fv_some {l : List Nat} {c m : Nat} (h : dec l = some (c, m)) : fv l = .tuple #[.int .u32 (c : Nat), .int .i64 (m : Nat)] := by simp [fv, h]

theorem dec_lead {o : Nat} {r : List Nat} (h : ld o = none) : dec (o :: r) = none := by simp [dec, h]
theorem dec_gon_none {o n c : Nat} {r : List Nat} (h : ld o = some (n, c)) (hg : gon n c r = none) : dec (o :: r) = none := by
  simp only [dec, h, hg]
theorem dec_gon_some {o n c d : Nat} {r : List Nat} (h : ld o = some (n, c)) (hg : gon n c r = some d) : dec (o :: r) = if fits n d then some (d, n + 1) else none := by
  simp only [dec, h, hg]
theorem ld_bound {o n c : Nat} (h : ld o = some (n, c)) (ho : o < 256) : n ≤ 3 ∧ c < 128 ∧ (n = 0 ∨ c < 32) := by
  unfold ld at h
  split at h
  · cases h; omega
  split at h
  · cases h
  split at h
  · cases h; omega
  split at h
  · cases h; omega
  split at h
  · cases h; omega
  · cases h

theorem gon_short : ∀ (n c : Nat) (r : List Nat), r.length < n → gon n c r = none
  | 0, _, _, h => by omega
  | n + 1, c, [], _ => rfl
  | n + 1, c, x :: r, h => by
    unfold gon
    split
    · exact gon_short n _ r (by simp at h; omega)
    · rfl

theorem gon_step {n c x : Nat} {r : List Nat} (h : cont x = true) : gon (n + 1) c (x :: r) = gon n (c * 64 + (x - 128)) r := by simp [gon, h]
theorem gon_stop {n c x : Nat} {r : List Nat} (h : cont x = false) : gon (n + 1) c (x :: r) = none := by simp [gon, h]
theorem drop_at {l : List Nat} {k x : Nat} (h : l[k]? = some x) : l.drop k = x :: l.drop (k + 1) := by
  obtain ⟨hk, rfl⟩ := List.getElem?_eq_some_iff.1 h
  exact List.drop_eq_getElem_cons hk

/-- Jumping back: what holds at the label. -/
def Jmp (w : World) (b o n c x : Nat) (l : List Nat) (a' : Act) (w' : World) : Prop :=
  ∃ m c0 j c1 : Nat, ld x = some (m, c0) ∧ m < n ∧ j ≤ m ∧ (m = 0 ∨ c1 < 32 * 64 ^ j) ∧ c1 < 8388608 ∧ gon m c0 (l.drop 1) = gon (m - j) c1 (l.drop (j + 1)) ∧ Rd .u8 256 w' w.heap.size (some ⟨b, o, none⟩) n l ∧ Tab w' ∧ Below w.heap.size w w' ∧
    ∃ u1 u2 u3 u6 u8 u9 u10 u11 u12 u13 u14 u15 u16 u17 u18 u19 u20 u21 u22 u23 u24 u25 u26 u27 u28 u29 u30 u31 u32 u33 u34 u35 u36 u37 u38 u39 u40 u41 u42 u43 u44 u45 u46 u47 u48 u49 u50 u51 u52 u53 u54 u55 u56 : Value, a' = { tmps := #[.slice (some ⟨b, o, none⟩) n c, u1, u2, u3, .int .i64 (m : Nat), .int .u32 (c1 : Nat), u6, .int .i64 ((j : Int) + 1), u8, u9, u10, u11, u12, u13, u14, u15, u16, u17, u18, u19, u20, u21, u22, u23, u24, u25, u26, u27, u28, u29, u30, u31, u32, u33, u34, u35, u36, u37, u38, u39, u40, u41, u42, u43, u44, u45, u46, u47, u48, u49, u50, u51, u52, u53, u54, u55, u56], defers := [] }
def slotJ (a' : Act) : Nat := 5 - (intOf (a'.tmps.getD 7 undef)).toNat

theorem wp_scope_to {P : Program} {a : Act} {w : World} {Q : Exit → Act → World → Prop} {c rest : Code} (l : Nat) (J : Act → World → Prop) (μ : Act → World → Nat) (hf : findLabel c l = some (Code.skip.seq rest))
    (pass : ∀ a w, J a w → rest.wp P (Exit.jump l (fun a' w' => J a' w' ∧ μ a' w' < μ a w) Q) a w)
    (first : (∀ a w, J a w → rest.wp P (Exit.jump l J Q) a w) → c.wp P (Exit.jump l J Q) a w) : (Code.scope c).wp P Q a w :=
  wp_scope_jumps l J μ hf (first fun a w h => wp_mono (pass a w h) fun e a' w' hq => by
    cases e with
    | goto l' => exact ⟨hq.1, hq.2.1⟩
    | _ => exact hq) fun a w h => wp_seq (wp_skip (pass a w h))
theorem jump_ret {l : Nat} {J : Act → World → Prop} {Q : Exit → Act → World → Prop} {a : Act} {w : World} : Exit.jump l J Q .ret a w = Q .ret a w := rfl

theorem step_bound {m j c1 y : Nat} (hm : m ≤ 3) (hj : j < m) (h : m = 0 ∨ c1 < 32 * 64 ^ j) (hy : y < 64) : c1 < 131072 ∧ (m = 0 ∨ c1 * 64 + y < 32 * 64 ^ (j + 1)) ∧ c1 * 64 + y < 8388608 := by
  have h' : c1 < 32 * 64 ^ j := by omega
  have : j = 0 ∨ j = 1 ∨ j = 2 := by omega
  rcases this with rfl | rfl | rfl <;> simp at h' ⊢ <;> omega

end Go.Proofs.Ytppcfkcnaaflgaa.Utf
