/-
  What stands in all places of a row of one's own, the spare ones too: laws of append and of make that keep it. No condition.
-/
import Derived.Test.YtppcfkcnaaflgaaRows
import Derived.Deep.AppendLies
import Derived.Laws.MakeOwn
import Derived.Laws.OwnMore
import Derived.Below
namespace Go.Proofs.Ytppcfkcnaaflgaa.Utf
open Go

/-- Each cell of the row in which v lies is of Q. -/
def Typ (Q : Value → Prop) (w : World) (v : Value) : Prop := ∀ g, v.ownBlock = some g → ∀ cur e fz, w.heap[g]? = some (.cells cur e fz) → ∀ u ∈ cur.toList, Q u
section
variable {Q : Value → Prop} {w w' : World} {v : Value}
theorem Typ.nil (Q : Value → Prop) (w : World) (n c : Nat) : Typ Q w (.slice none n c) := fun _ h => by cases h
theorem Typ.keep (h : Typ Q w v) (hk : ∀ g, v.ownBlock = some g → w'.heap[g]? = w.heap[g]?) : Typ Q w' v := fun g hg cur e fz hc => h g hg cur e fz ((hk g hg) ▸ hc)
theorem Typ.len {A : Option Addr} {n n' c c' : Nat} (h : Typ Q w (.slice A n c)) : Typ Q w (.slice A n' c') := fun g hg => h g (by cases A <;> exact hg)
theorem Typ.new (w : World) (cs : Array Value) (e : TypeId) (n c : Nat) (h : ∀ u ∈ cs.toList, Q u) : Typ Q (w.alloc (.cells cs e)) (.slice (some ⟨w.heap.size, 0, none⟩) n c) := fun g hg cur e' fz hc => by
  have : w.heap.size = g := by simpa [Value.ownBlock] using hg
  subst this
  rw [heap_alloc_new] at hc
  injection hc with hc
  injection hc with hc _ _
  subst hc
  exact h
end
theorem zero_cells {Q : Value → Prop} {z : Value} (hz : z.cells = #[z]) (h : Q z) (k : Nat) : ∀ u ∈ (Builtin.zeroCells z.cells k).toList, Q u := fun u hu => by
  rw [hz] at hu
  simp [Builtin.zeroCells, Nat.mod_one] at hu
  obtain ⟨_, _, rfl⟩ := hu
  exact h
theorem made_cells {Q : Value → Prop} {z : Value} (hz : z.cells = #[z]) (h : Q z) (k : Nat) : ∀ u ∈ (madeCells z.cells k).toList, Q u := fun u hu => by
  rw [hz] at hu
  simp [madeCells, Nat.mod_one] at hu
  obtain ⟨_, _, rfl⟩ := hu
  exact h

/-- append keeps it. -/
theorem typ_append {P : Program} {Q : Value → Prop} {w : World} (t ty e : TypeId) (i : TypeInfo) (z : Value) (bytes : Nat) (ht : P.underlying t = some (.slice e)) (hi : P.info? e = some i) (hz : i.zero = some z)
    (hsize : i.size = 1) (hby : i.bytes = bytes) (hzc : z.cells = #[z]) (hzq : Q z)
    (base : Nat) (v : Value) (n : Nat) (xs : List Value) (hown : w.ownsRow base e 1 v n xs) (hT : Typ Q w v)
    (a : Addr) (m c : Nat) (news : List Value) (hl : news.length = m * 1) (hnews : ∀ j u, news[j]? = some u → w.cell? (a.add j) = some u) (h1 : ∀ u ∈ news, u.oneCell' = true) (hq : ∀ u ∈ news, Q u)
    (h63 : n + m ≤ maxLen) (hbytes : (n + m) * bytes ≤ 140737488355328) {v' : Value} {w' : World} (hrun : (Builtin.append_ #[t, t] ty #[v, .slice (some a) m c]).run P w = .ok v' w') : Typ Q w' v' := by
  have hsmall : n + m ≤ 9223372036854775807 := by simp only [maxLen] at h63; omega
  subst hby
  rcases hown.2 with ⟨rfl, rfl⟩ | ⟨g, cap, cur, rfl, _, hg, hnc, _, hcs, htake⟩
  · by_cases hm : m = 0
    · subst hm
      have hn : news = [] := List.eq_nil_of_length_eq_zero (by simpa using hl)
      subst hn
      have hr : (Builtin.append_ #[t, t] ty #[.slice none 0 0, .slice (some a) 0 c]).run P w = .ok (.slice none 0 0) w := by
        simp [Builtin.append_, run_underlying ht, sizeOf, typeInfo, hi, Builtin.lenOf, Builtin.firstCells, loadCells, loadCellsFrom]
      rw [hr] at hrun
      injection hrun with e1 e2
      subst e1
      exact Typ.nil _ _ _ _
    · have hr := run_append_nil (P := P) w t ty e i z ht hi hz a m c news (by rw [hsize]; exact hl) hnews (by omega) (by omega) (by have hb := hbytes; simp only [Nat.zero_add] at hb; omega)
      rw [hr] at hrun
      injection hrun with e1 e2
      subst e1 e2
      refine Typ.new w.drew _ _ _ _ fun u hu => ?_
      rw [Array.toList_append, List.mem_append] at hu
      rcases hu with hu | hu
      · exact hq u (by simpa using hu)
      · exact zero_cells hzc hzq _ u hu
  · have hcq : ∀ u ∈ cur.toList, Q u := hT g rfl cur e (0, 0) hg
    have hxq : ∀ u ∈ xs, Q u := fun u hu => hcq u (List.mem_of_mem_take (by rw [htake]; exact hu))
    by_cases hroom : n + m ≤ cap
    · have hfit : n * i.size + news.length ≤ cur.size := by rw [hl, hcs, hsize, ← Nat.add_mul]; exact Nat.mul_le_mul_right _ hroom
      have hr := run_append_room (P := P) w t ty e i ht hi g n cap cur hg a m c news (by rw [hsize]; exact hl) hnews h1 hroom hfit
      rw [hr] at hrun
      injection hrun with e1 e2
      subst e1 e2
      intro g' hg' cur' e' fz hc u hu
      have : g = g' := by simpa [Value.ownBlock] using hg'
      subst this
      rw [setRow_heap w g cur _ e _ hg] at hc
      injection hc with hc
      injection hc with hc _ _
      subst hc
      simp only [List.mem_append] at hu
      rcases hu with (hu | hu) | hu
      · exact hcq u (List.mem_of_mem_take hu)
      · exact hq u hu
      · exact hcq u (List.mem_of_mem_drop hu)
    · have holds : ∀ j u, xs[j]? = some u → w.cell? ((⟨g, 0, none⟩ : Addr).add j) = some u := hown.cells (g := g) rfl
      have hr := run_append_grow (P := P) w t ty e i z ht hi hz ⟨g, 0, none⟩ n cap xs (by rw [hsize]; exact hown.1) holds a m c news (by rw [hsize]; exact hl) hnews (by omega) (by omega) (growslice_fits (by omega) hbytes)
      rw [hr] at hrun
      injection hrun with e1 e2
      subst e1 e2
      refine Typ.new w.drew _ _ _ _ fun u hu => ?_
      rw [Array.toList_append, Array.toList_append, List.mem_append, List.mem_append] at hu
      rcases hu with (hu | hu) | hu
      · exact hxq u (by simpa using hu)
      · exact hq u (by simpa using hu)
      · exact zero_cells hzc hzq _ u hu
end Go.Proofs.Ytppcfkcnaaflgaa.Utf
