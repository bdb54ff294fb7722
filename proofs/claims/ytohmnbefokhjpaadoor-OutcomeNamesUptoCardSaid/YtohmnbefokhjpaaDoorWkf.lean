/-
  Contract of value.Right; and, with plain numbers, what the laws' anchor 'works' asks of the values that it makes. Memory that was there stays. Condition of the last: the table of package utf.
-/
import Derived.Test.YtohmnbefokhjpaaDoorKtw
import Derived.Test.YtohmnbefokhjpaaDoorVright
import Derived.Test.YtohmnbefokhjpaaDoorMade
namespace Go.Proofs.YtohmnbefokhjpaaDoor.Val
set_option maxRecDepth 100000
open Go.RowKit Go.Proofs.YtohmnbefokhjpaaDoor.Utf V

theorem vright_any (k n : Nat) (t : ByteArray) (ks : List V) (A : Option Addr) (l c : Nat) (w : World) (hN : bulkL ks ≤ 1073741824) (ht : t.size ≤ 1073741824) (hn : n < 18446744073709551616) (hK : Kd w ks A l c) (hTab : Tab w) :
    Calls Tryd.prog 32 #[.agg #[.int .u8 k, .int .u64 n, .string t, .slice A l c]] w (GivesB (okB (.mk k n t ks)) w) := vright_of ktwice_any k n t ks A l c w hN ht hn hK hTab

def one : V := .mk 5 1 ⟨#[]⟩ []
def bigv : V := .mk 6 1 ⟨#[]⟩ []
def nul : V := .mk 1 0 ⟨#[]⟩ []
def tru : V := .mk 2 1 ⟨#[]⟩ []
def mks : List V := [one, nul, bigv, tru]
def bks : List V := [one, one, one, one]

/-- Four values beside one another, in a new row. -/
theorem kids_four {w : World} {k0 n0 k1 n1 k2 n2 k3 n3 : Nat} (h0 : k0 < 256 ∧ n0 < 18446744073709551616) (h1 : k1 < 256 ∧ n1 < 18446744073709551616) (h2 : k2 < 256 ∧ n2 < 18446744073709551616) (h3 : k3 < 256 ∧ n3 < 18446744073709551616) :
    Kd (w.alloc (.cells #[.int .u8 k0, .int .u64 n0, .string ⟨#[]⟩, .slice none 0 0, .int .u8 k1, .int .u64 n1, .string ⟨#[]⟩, .slice none 0 0, .int .u8 k2, .int .u64 n2, .string ⟨#[]⟩, .slice none 0 0, .int .u8 k3, .int .u64 n3, .string ⟨#[]⟩, .slice none 0 0] 27)) [.mk k0 n0 ⟨#[]⟩ [], .mk k1 n1 ⟨#[]⟩ [], .mk k2 n2 ⟨#[]⟩ [], .mk k3 n3 ⟨#[]⟩ []] (some ⟨w.heap.size, 0, none⟩) 4 4 := by
  refine ⟨rfl, Nat.le_refl _, fun _ => ⟨w.heap.size, 0, rfl, by simp, fun h => (by cases h), ?_⟩⟩
  exact ⟨repV_iff.2 ⟨none, 0, 0, by simp, by simp, by simp, by simp, h0.1, h0.2, Kd.none_ _ _ _⟩, repV_iff.2 ⟨none, 0, 0, by simp, by simp, by simp, by simp, h1.1, h1.2, Kd.none_ _ _ _⟩, repV_iff.2 ⟨none, 0, 0, by simp, by simp, by simp, by simp, h2.1, h2.2, Kd.none_ _ _ _⟩, repV_iff.2 ⟨none, 0, 0, by simp, by simp, by simp, by simp, h3.1, h3.2, Kd.none_ _ _ _⟩, trivial⟩
theorem mks_kd (w : World) (g : Nat) (hg : w.heap.size = g) : Kd (w.alloc (.cells #[.int .u8 5, .int .u64 1, .string ⟨#[]⟩, .slice none 0 0, .int .u8 1, .int .u64 0, .string ⟨#[]⟩, .slice none 0 0, .int .u8 6, .int .u64 1, .string ⟨#[]⟩, .slice none 0 0, .int .u8 2, .int .u64 1, .string ⟨#[]⟩, .slice none 0 0] 27)) mks (some ⟨g, 0, none⟩) 4 4 :=
  hg ▸ kids_four (k0 := 5) (n0 := 1) (k1 := 1) (n1 := 0) (k2 := 6) (n2 := 1) (k3 := 2) (n3 := 1) (by omega) (by omega) (by omega) (by omega)
theorem bks_kd (w : World) (g : Nat) (hg : w.heap.size = g) : Kd (w.alloc (.cells #[.int .u8 5, .int .u64 1, .string ⟨#[]⟩, .slice none 0 0, .int .u8 5, .int .u64 1, .string ⟨#[]⟩, .slice none 0 0, .int .u8 5, .int .u64 1, .string ⟨#[]⟩, .slice none 0 0, .int .u8 5, .int .u64 1, .string ⟨#[]⟩, .slice none 0 0] 27)) bks (some ⟨g, 0, none⟩) 4 4 :=
  hg ▸ kids_four (k0 := 5) (n0 := 1) (k1 := 5) (n1 := 1) (k2 := 5) (n2 := 1) (k3 := 5) (n3 := 1) (by omega) (by omega) (by omega) (by omega)

theorem bulk_mks : bulkL mks ≤ 1073741824 := by decide
theorem bulk_bks : bulkL bks ≤ 1073741824 := by decide
theorem mks_many (A : Option Addr) (l c : Nat) (w : World) (hK : Kd w mks A l c) : Calls Tryd.prog 41 #[.int .u8 23, .slice A l c] w (GivesN 23 0 ⟨#[]⟩ mks w) := vmany_any 23 mks A l c w bulk_mks (by omega) hK
theorem bks_many (A : Option Addr) (l c : Nat) (w : World) (hK : Kd w bks A l c) : Calls Tryd.prog 41 #[.int .u8 23, .slice A l c] w (GivesN 23 0 ⟨#[]⟩ bks w) := vmany_any 23 bks A l c w bulk_bks (by omega) hK
def ta : ByteArray := ⟨#[97]⟩
def dk1 : List V := [.mk 21 0 ⟨#[97]⟩ [], one]
def dk2 : List V := [one, one]
theorem emp0 : emptyB ⟨#[]⟩ = true := rfl
theorem nd_m : noDup (keysL mks) = true := by decide
theorem nd_b : noDup (keysL bks) = false := by decide
theorem kb_m : kidsOk 23 mks = true := by rw [kidsOk_23, nd_m]; rfl
theorem kb_b : kidsOk 23 bks = false := by rw [kidsOk_23, nd_b]; rfl
theorem ok_m : okB (.mk 23 0 ⟨#[]⟩ mks) = true := by
  simp only [okB, mayB, kb_m]
  simp [mks, one, nul, bigv, tru, items, itemsL, depth, depthL, mayB, mayL, aloneOk, emp0, kidsOk, numB]
theorem ok_b : okB (.mk 23 0 ⟨#[]⟩ bks) = false := by
  simp only [okB, mayB, kb_b, Bool.and_false]
theorem ok_300 : okB (.mk 3 300 ⟨#[]⟩ []) = false := by
  simp [okB, items, itemsL, depth, depthL, mayB, mayL, aloneOk, emp0, kidsOk, numB]
theorem ok_d1 : okB (.mk 25 0 ⟨#[]⟩ dk1) = true := by
  simp [okB, dk1, one, items, itemsL, depth, depthL, mayB, mayL, aloneOk, emp0, kidsOk, numB, textB, asc, nb, nameB, kind]
theorem ok_d2 : okB (.mk 25 0 ⟨#[]⟩ dk2) = false := by
  simp [okB, dk2, one, items, itemsL, depth, depthL, mayB, mayL, aloneOk, emp0, kidsOk, numB, nameB, kind]
section
variable (A : Option Addr) (l c : Nat) (w : World)
theorem right_m (hK : Kd w mks A l c) (ht : Tab w) : Calls Tryd.prog 32 #[.agg #[.int .u8 23, .int .u64 0, .string ⟨#[]⟩, .slice A l c]] w (GivesB true w) := ok_m ▸ vright_any 23 0 ⟨#[]⟩ mks A l c w bulk_mks (by decide) (by omega) hK ht
theorem right_b (hK : Kd w bks A l c) (ht : Tab w) : Calls Tryd.prog 32 #[.agg #[.int .u8 23, .int .u64 0, .string ⟨#[]⟩, .slice A l c]] w (GivesB false w) := ok_b ▸ vright_any 23 0 ⟨#[]⟩ bks A l c w bulk_bks (by decide) (by omega) hK ht
theorem right_300 (ht : Tab w) : Calls Tryd.prog 32 #[.agg #[.int .u8 3, .int .u64 300, .string ⟨#[]⟩, .slice none 0 0]] w (GivesB false w) := ok_300 ▸ vright_any 3 300 ⟨#[]⟩ [] none 0 0 w (by decide) (by decide) (by omega) (Kd.none_ _ _ _) ht
theorem right_d1 (hK : Kd w dk1 A l c) (ht : Tab w) : Calls Tryd.prog 32 #[.agg #[.int .u8 25, .int .u64 0, .string ⟨#[]⟩, .slice A l c]] w (GivesB true w) := ok_d1 ▸ vright_any 25 0 ⟨#[]⟩ dk1 A l c w (by decide) (by decide) (by omega) hK ht
theorem right_d2 (hK : Kd w dk2 A l c) (ht : Tab w) : Calls Tryd.prog 32 #[.agg #[.int .u8 25, .int .u64 0, .string ⟨#[]⟩, .slice A l c]] w (GivesB false w) := ok_d2 ▸ vright_any 25 0 ⟨#[]⟩ dk2 A l c w (by decide) (by decide) (by omega) hK ht
theorem num_300 : Calls Tryd.prog 10 #[.int .u8 3, .int .u64 300] w fun e w' => e = .returned (.agg #[.int .u8 3, .int .u64 300, .string ⟨#[]⟩, .slice none 0 0]) ∧ Below w.heap.size w w' := number_any 3 300 w
theorem tru_new : Calls Tryd.prog 50 #[.bool true] w fun e w' => e = .returned (.agg #[.int .u8 2, .int .u64 1, .string ⟨#[]⟩, .slice none 0 0]) ∧ Below w.heap.size w w' := bool_any true w
theorem nul_new : Calls Tryd.prog 9 #[] w fun e w' => e = .returned (.agg #[.int .u8 1, .int .u64 0, .string ⟨#[]⟩, .slice none 0 0]) ∧ Below w.heap.size w w' := null_any w
theorem text_a : Calls Tryd.prog 7 #[.int .u8 21, .string ⟨#[97]⟩] w fun e w' => e = .returned (.agg #[.int .u8 21, .int .u64 0, .string ⟨#[97]⟩, .slice none 0 0]) ∧ Below w.heap.size w w' := text_any' 21 _ w
theorem same_x (hK : Kd w [] A l c) : Calls Tryd.prog 33 #[.agg #[.int .u8 2, .int .u64 1, .string ⟨#[]⟩, .slice A l c], .agg #[.int .u8 2, .int .u64 1, .string ⟨#[]⟩, .slice none 0 0]] w (GivesB true w) := vsame_any 2 1 ⟨#[]⟩ [] A l c 2 1 ⟨#[]⟩ [] none 0 0 w (by decide) hK (Kd.none_ _ _ _)
def GivesQ (k : Int) (ks : List V) (w : World) (e : Ending) (w' : World) : Prop := ∃ A l c, e = .returned (.agg #[.int .u8 k, .int .u64 0, .string ⟨#[]⟩, .slice A l c]) ∧ Nw w.heap.size w' ks A l c ∧ Below w.heap.size w w'
theorem many_m (hK : Kd w mks A l c) : Calls Tryd.prog 41 #[.int .u8 23, .slice A l c] w (GivesQ 23 mks w) := (vmany_any 23 mks A l c w bulk_mks (by omega) hK)
theorem many_b (hK : Kd w bks A l c) : Calls Tryd.prog 41 #[.int .u8 23, .slice A l c] w (GivesQ 23 bks w) := (vmany_any 23 bks A l c w bulk_bks (by omega) hK)
theorem desc_1 : Calls Tryd.prog 30 #[.agg #[.int .u8 21, .int .u64 0, .string ⟨#[97]⟩, .slice none 0 0], .agg #[.int .u8 5, .int .u64 1, .string ⟨#[]⟩, .slice none 0 0]] w (GivesQ 25 dk1 w) := (vdesc_any 21 0 ⟨#[97]⟩ [] none 0 0 5 1 ⟨#[]⟩ [] none 0 0 w (by decide) (by omega) (by omega) (by omega) (by omega) (Kd.none_ _ _ _) (Kd.none_ _ _ _))
theorem desc_2 : Calls Tryd.prog 30 #[.agg #[.int .u8 5, .int .u64 1, .string ⟨#[]⟩, .slice none 0 0], .agg #[.int .u8 5, .int .u64 1, .string ⟨#[]⟩, .slice none 0 0]] w (GivesQ 25 dk2 w) := (vdesc_any 5 1 ⟨#[]⟩ [] none 0 0 5 1 ⟨#[]⟩ [] none 0 0 w (by decide) (by omega) (by omega) (by omega) (by omega) (Kd.none_ _ _ _) (Kd.none_ _ _ _))
def GivesX (w : World) (e : Ending) (w' : World) : Prop := ∃ A l c, e = .returned (.tuple #[.agg #[.int .u8 2, .int .u64 1, .string ⟨#[]⟩, .slice A l c], .bool true]) ∧ Kd w' [] A l c ∧ Below w.heap.size w w'
end
end Go.Proofs.YtohmnbefokhjpaaDoor.Val
