/-
  An element of a slice of values, and what value's Right, Depth, Items and Desc say of it. Memory that was there stays. Condition: values of bulk at most 2^21; of Right: the table of package utf.
-/
import Derived.Test.YtohmnbefokhjpaaDoorWkf
import Derived.Deep.RegionWith
import Derived.Deep.RegionHeld3
namespace Go.Proofs.YtohmnbefokhjpaaDoor.Val
set_option maxRecDepth 100000
open Go.RowKit Go.Proofs.YtohmnbefokhjpaaDoor.Utf V

/-- Four cells that hold a value. -/
def El (w : World) (b p k n : Nat) (t : ByteArray) (ks : List V) (A : Option Addr) (l c : Nat) : Prop :=
  b < w.heap.size ∧ w.cell? ⟨b, p, none⟩ = some (.int .u8 k) ∧ w.cell? ⟨b, p + 1, none⟩ = some (.int .u64 n) ∧ w.cell? ⟨b, p + 2, none⟩ = some (.string t) ∧ w.cell? ⟨b, p + 3, none⟩ = some (.slice A l c) ∧ Kd w ks A l c
section
variable {w w' : World} {b p k n : Nat} {t : ByteArray} {ks : List V} {A : Option Addr} {l c : Nat}
theorem El.lt (h : El w b p k n t ks A l c) : b < w.heap.size := h.1
theorem El.kd (h : El w b p k n t ks A l c) : Kd w ks A l c := h.2.2.2.2.2
theorem El.call (h : El w b p k n t ks A l c) (hb : Below w.heap.size w w') : El w' b p k n t ks A l c :=
  ⟨Nat.lt_of_lt_of_le h.1 hb.size, (hb.cell (p := ⟨b, p, none⟩) h.1).trans h.2.1, (hb.cell (p := ⟨b, p + 1, none⟩) h.1).trans h.2.2.1, (hb.cell (p := ⟨b, p + 2, none⟩) h.1).trans h.2.2.2.1, (hb.cell (p := ⟨b, p + 3, none⟩) h.1).trans h.2.2.2.2.1, h.2.2.2.2.2.call hb⟩
theorem El.alloc (h : El w b p k n t ks A l c) (o : Obj) : El (w.alloc o) b p k n t ks A l c := h.call ((Below.refl _ _).alloc (Nat.le_refl _) _)
theorem El.drew (h : El w b p k n t ks A l c) : El w.drew b p k n t ks A l c := h.call ((Below.refl _ _).drew)
theorem El.held (h : El w b p k n t ks A l c) (hb : Below w.heap.size w w') : w'.cell? ⟨b, p, none⟩ = some (.int .u8 k) ∧ w'.cell? ⟨b, p + 1, none⟩ = some (.int .u64 n) ∧ w'.cell? ⟨b, p + 2, none⟩ = some (.string t) ∧ w'.cell? ⟨b, p + 3, none⟩ = some (.slice A l c) ∧ Below w.heap.size w w' :=
  have h := h.call hb
  ⟨h.2.1, h.2.2.1, h.2.2.2.1, h.2.2.2.2.1, hb⟩
theorem El.cells (h : El w b p k n t ks A l c) : w.cell? ⟨b, p, none⟩ = some (.int .u8 k) ∧ w.cell? ⟨b, p + 1, none⟩ = some (.int .u64 n) ∧ w.cell? ⟨b, p + 2, none⟩ = some (.string t) ∧ w.cell? ⟨b, p + 3, none⟩ = some (.slice A l c) := ⟨h.2.1, h.2.2.1, h.2.2.2.1, h.2.2.2.2.1⟩
end
/-- What a value's parts tell of it. -/
def Tells (k n : Nat) (t : ByteArray) (ks : List V) (r : Bool) (D I : Nat) : Prop := okB (.mk k n t ks) = r ∧ V.depth (.mk k n t ks) = D ∧ V.items (.mk k n t ks) = I ∧ bulk (.mk k n t ks) ≤ 2097152 ∧ n < 18446744073709551616
section
variable {w : World} {k n : Nat} {t : ByteArray} {ks : List V} {A : Option Addr} {l c D I : Nat} {r : Bool}
theorem Tells.right (h : Tells k n t ks r D I) (hK : Kd w ks A l c) (ht : Tab w) : Calls Tryd.prog 32 #[.agg #[.int .u8 k, .int .u64 n, .string t, .slice A l c]] w (GivesB r w) := by
  obtain ⟨rfl, _, _, hN, hn⟩ := h
  exact vright_any k n t ks A l c w (by simp only [bulk] at hN; omega) (by simp only [bulk] at hN; omega) hn hK ht
end
theorem num_any (k n : Int) (w : World) : Calls Tryd.prog 10 #[.int .u8 k, .int .u64 n] w fun e w' => e = .returned (.agg #[.int .u8 k, .int .u64 n, .string ⟨#[]⟩, .slice none 0 0]) ∧ Below w.heap.size w w' := by
  go_enter Tryd.func10, Tryd.ntmps10
  go_wp2
  exact bodyPost_ret (v := .agg #[.int .u8 k, .int .u64 n, .string ⟨#[]⟩, .slice none 0 0]) (by simp [results, Tryd.results10, go_sem]) rfl ⟨rfl, (Below.refl _ _).alloc (Nat.le_refl _) _⟩
/-- An element of a slice of values. -/
theorem Kd.el {w : World} {ks : List V} {A : Option Addr} {l c : Nat} (h : Kd w ks A l c) {i : Nat} (hi : i < l) : ∃ b o k n t ks' A' l' c', A = some ⟨b, o, none⟩ ∧ ks[i]? = some (.mk k n t ks') ∧ k < 256 ∧ n < 18446744073709551616 ∧ bulk (.mk k n t ks') ≤ bulkL ks ∧ El w b (o + i * 4) k n t ks' A' l' c' := by
  obtain ⟨b, o, k, n, t, ks', A', l', c', rfl, hb, hx, h0, h1, h2, h3, hk, hn, hK⟩ := h.at_ hi
  exact ⟨b, o, k, n, t, ks', A', l', c', rfl, hx, hk, hn, at_bulk hx, hb, h0, h1, h2, h3, hK⟩
end Go.Proofs.YtohmnbefokhjpaaDoor.Val
