/-
  Contract of the program's symbols: the texts of one symbol, or of an array of nothing else. Memory that was there stays. Condition: values of bulk at most 2^30.
-/
import Derived.Test.YtohmnbefokhjpaaDoorFun
import Derived.Deep.AppendLies
namespace Go.Proofs.YtohmnbefokhjpaaDoor.Fl
set_option maxRecDepth 100000
open Go.RowKit Go.Proofs.YtohmnbefokhjpaaDoor.Utf Go.Proofs.YtohmnbefokhjpaaDoor.Val V

/-- A call's own row of texts. -/
def Strs (B : Nat) (w : World) (A : Option Addr) (n c : Nat) (ts : List ByteArray) : Prop := w.ownsRow B 9 1 (.slice A n c) n (ts.map .string)
section
variable {B B' : Nat} {w w1 : World} {A : Option Addr} {n c : Nat} {ts : List ByteArray}
theorem Strs.nil (B : Nat) (w : World) : Strs B w none 0 0 [] := World.ownsRow_nil _ _ _ _
theorem Strs.len (h : Strs B w A n c ts) : n = ts.length := by
  have h1 : (ts.map Value.string).length = n * 1 := h.1
  rw [List.length_map] at h1
  omega
theorem Strs.call (h : Strs B w A n c ts) (hb : Below w.heap.size w w1) : Strs B w1 A n c ts := World.ownsRow.kept h (grown_of_below hb) (by cases hv : (Value.slice A n c).ownBlock <;> simp)
theorem Strs.mono (h : Strs B w A n c ts) (hb : B' ≤ B) : Strs B' w A n c ts := by
  refine ⟨h.1, ?_⟩
  rcases h.2 with h | ⟨g, cap, cur, h1, h2, h3⟩
  · exact .inl h
  · exact .inr ⟨g, cap, cur, h1, by omega, h3⟩
theorem Strs.keep (h : Strs B w A n c ts) (hk : ∀ g, (Value.slice A n c).ownBlock = some g → w1.heap[g]? = w.heap[g]?) : Strs B w1 A n c ts := by
  refine ⟨h.1, ?_⟩
  rcases h.2 with h | ⟨g, cap, cur, h1, h2, h3⟩
  · exact .inl h
  · injection h1 with e1 e2 e3
    subst e1
    exact .inr ⟨g, cap, cur, by rw [e2, e3], h2, (hk g (by cases n <;> cases c <;> simp_all [Value.ownBlock])).trans h3.1, h3.2⟩
end
theorem infoS : (Tryd.prog.info? 9).map (fun i => (i.zero, i.size, i.bytes)) = some (some (.string ⟨#[]⟩), 1, 16) := by kernel_rfl
theorem news1 (w : World) (x : Value) (e : TypeId) (H : Nat) (hH : w.heap.size = H) : ∀ j v, [x][j]? = some v → (w.alloc (.cells #[x] e)).cell? ((⟨H, 0, none⟩ : Addr).add j) = some v := by
  subst hH
  intro j v hv
  have hj : j < 1 := (List.getElem?_eq_some_iff.1 hv).1
  obtain rfl : j = 0 := by omega
  rw [← hv]; simp [Addr.add]
/-- One value beside nothing. -/
theorem kid1 {w : World} {k n : Nat} {t : ByteArray} {ks : List V} {A : Option Addr} {l c : Nat} (hk : k < 256) (hn : n < 18446744073709551616) (hK : Kd w ks A l c) : Kd (w.alloc (.cells #[.int .u8 k, .int .u64 n, .string t, .slice A l c] 27)) [.mk k n t ks] (some ⟨w.heap.size, 0, none⟩) 1 1 := by
  refine ⟨rfl, Nat.le_refl _, fun _ => ⟨w.heap.size, 0, rfl, by simp, fun h => (by cases h), ?_⟩⟩
  exact ⟨repV_iff.2 ⟨A, l, c, by simp, by simp, by simp, by simp, hk, hn, hK.alloc _⟩, trivial⟩

/-- What symbols looks at; whether all are symbols; their texts. -/
def symOf (v : V) : List V := if v.kind = 24 then v.kids else [v]
def allSym (us : List V) : Bool := us.all fun u => decide (u.kind = 21)
def texts (us : List V) : List ByteArray := us.map V.text
theorem allSym_snoc {us : List V} {j : Nat} {v : V} (h : us[j]? = some v) : allSym (us.take (j + 1)) = (allSym (us.take j) && decide (v.kind = 21)) := by
  unfold allSym
  rw [List.take_add_one, h]
  simp
theorem texts_snoc {us : List V} {j : Nat} {v : V} (h : us[j]? = some v) : texts (us.take (j + 1)) = texts (us.take j) ++ [v.text] := by
  unfold texts
  rw [List.take_add_one, h]
  simp
theorem allSym_no {us : List V} {j : Nat} {v : V} (h : us[j]? = some v) (hk : v.kind ≠ 21) : allSym us = false := by
  cases hb : allSym us with
  | false => rfl
  | true => exact absurd (of_decide_eq_true (List.all_eq_true.1 hb v (List.mem_of_getElem? h))) hk
/-- Texts that are answered. -/
def QL (B : Nat) (ts : List ByteArray) (r : Value) (w' : World) : Prop := ∃ A n c, r = .slice A n c ∧ Strs B w' A n c ts

end Go.Proofs.YtohmnbefokhjpaaDoor.Fl
