/-
  The reader in memory, and contracts of what it stands on: taking bytes off, numbers. Condition: at most 2^40 bytes.
-/
import Derived.Test.YtikjnbognjicdaaDoorCells
import Derived.Test.YtikjnbognjicdaaDoorStack
import Derived.Test.YtikjnbognjicdaaDoorDsp
import Derived.Outline
namespace Go.Proofs.YtikjnbognjicdaaDoor.Dec
set_option maxRecDepth 100000
open Go.RowKit Go.Proofs.YtikjnbognjicdaaDoor.Utf Go.Proofs.YtikjnbognjicdaaDoor.Val V

/-- Memory is as it was but for two blocks, and new ones. -/
structure Up (a b : Nat) (w w' : World) : Prop where
  os : w'.os = w.os
  tape : w'.tape = w.tape
  output : w'.output = w.output
  size : w.heap.size ≤ w'.heap.size
  block : ∀ i, i < w.heap.size → i ≠ a → i ≠ b → w'.heap[i]? = w.heap[i]?
section
variable {a b B : Nat} {w w1 w' : World}
theorem Up.refl (a b : Nat) (w : World) : Up a b w w := ⟨rfl, rfl, rfl, Nat.le_refl _, fun _ _ _ _ => rfl⟩
theorem Up.trans (h : Up a b w w1) (h' : Up a b w1 w') : Up a b w w' :=
  ⟨h'.os.trans h.os, h'.tape.trans h.tape, h'.output.trans h.output, Nat.le_trans h.size h'.size, fun i hi ha hb => (h'.block i (Nat.lt_of_lt_of_le hi h.size) ha hb).trans (h.block i hi ha hb)⟩
theorem Up.of (h : Below w.heap.size w w') : Up a b w w' := ⟨h.os, h.tape, h.output, h.size, fun i hi _ _ => h.block i hi⟩
theorem Up.call (h : Up a b w w1) (h' : Below w1.heap.size w1 w') : Up a b w w' := h.trans (Up.of h')
theorem Up.setA (h : Up a b w w1) (j : Nat) (u : Value) : Up a b w (w1.setCell ⟨a, j, none⟩ u) :=
  h.trans ⟨rfl, rfl, rfl, by simp, fun i _ ha _ => Below.heap_setCell _ _ _ _ ha⟩
theorem Up.setB (h : Up a b w w1) (j : Nat) (u : Value) : Up a b w (w1.setCell ⟨b, j, none⟩ u) :=
  h.trans ⟨rfl, rfl, rfl, by simp, fun i _ _ hb => Below.heap_setCell _ _ _ _ hb⟩
theorem Up.below (h : Up a b w w') (ha : B ≤ a) (hb : B ≤ b) (hB : B ≤ w.heap.size) : Below B w w' :=
  ⟨h.os, h.tape, h.output, h.size, fun i hi => h.block i (Nat.lt_of_lt_of_le hi hB) (fun e => by omega) (fun e => by omega)⟩
/-- What is done beside one block's, seen from before the other one was made. -/
theorem Up.inner (h0 : Up b b w w1) (h : Up a b w1 w') (ha : w.heap.size ≤ a) : Up b b w w' :=
  ⟨h.os.trans h0.os, h.tape.trans h0.tape, h.output.trans h0.output, Nat.le_trans h0.size h.size, fun i hi hb _ => (h.block i (Nat.lt_of_lt_of_le hi h0.size) (fun e => by omega) hb).trans (h0.block i hi hb hb)⟩
theorem Up.wide (h : Up b b w w') : Up a b w w' := ⟨h.os, h.tape, h.output, h.size, fun i hi _ hb => h.block i hi hb hb⟩
theorem Up.cell (h : Up a b w w') {g : Nat} (hg : g < w.heap.size) (ha : g ≠ a) (hb : g ≠ b) (j : Nat) : w'.cell? ⟨g, j, none⟩ = w.cell? ⟨g, j, none⟩ := World.cell?_of_block (w := w) (h.block g hg ha hb)
end

/-- A reader in block rb: what is left, what is wrong where bytes are wanting, and (in block ib) how many parts there are. -/
structure Rdr (w : World) (rb ib B : Nat) (A : Option Addr) (n c : Nat) (L : List Nat) (sh it : Nat) : Prop where
  left : w.cell? ⟨rb, 0, none⟩ = some (.slice A n c)
  short : w.cell? ⟨rb, 1, none⟩ = some (.int .i64 (sh : Int))
  ptr : w.cell? ⟨rb, 2, none⟩ = some (.pointer (some ⟨ib, 0, none⟩))
  item : w.cell? ⟨ib, 0, none⟩ = some (.int .i64 (it : Int))
  fr : ∀ j, w.frozen? ⟨rb, j, none⟩ = false
  fi : ∀ j, w.frozen? ⟨ib, j, none⟩ = false
  rd : Rd .u8 256 w B A n L
  cap : n ≤ c
  lim : n ≤ 1099511627776
  hr : B ≤ rb
  hi : B ≤ ib
  ne : rb ≠ ib
  lr : rb < w.heap.size
  li : ib < w.heap.size
section
variable {w w' : World} {rb ib B n c sh it : Nat} {A : Option Addr} {L : List Nat}
theorem Rdr.low (h : Rdr w rb ib B A n c L sh it) : B ≤ w.heap.size := Nat.le_of_lt (Nat.lt_of_le_of_lt h.hr h.lr)
theorem Rdr.call (h : Rdr w rb ib B A n c L sh it) (hb : Below w.heap.size w w') : Rdr w' rb ib B A n c L sh it :=
  ⟨(hb.cell (p := ⟨rb, 0, none⟩) h.lr).trans h.left, (hb.cell (p := ⟨rb, 1, none⟩) h.lr).trans h.short, (hb.cell (p := ⟨rb, 2, none⟩) h.lr).trans h.ptr, (hb.cell (p := ⟨ib, 0, none⟩) h.li).trans h.item,
    fun j => (hb.frozen (p := ⟨rb, j, none⟩) h.lr).trans (h.fr j), fun j => (hb.frozen (p := ⟨ib, j, none⟩) h.li).trans (h.fi j), h.rd.below (hb.mono h.low), h.cap, h.lim, h.hr, h.hi, h.ne, Nat.lt_of_lt_of_le h.lr hb.size, Nat.lt_of_lt_of_le h.li hb.size⟩
theorem Rdr.setLeft (h : Rdr w rb ib B A n c L sh it) {A' : Option Addr} {n' c' : Nat} {L' : List Nat} (hr : Rd .u8 256 w B A' n' L') (hc : n' ≤ c') (hn : n' ≤ 1099511627776) :
    Rdr (w.setCell ⟨rb, 0, none⟩ (.slice A' n' c')) rb ib B A' n' c' L' sh it :=
  ⟨World.cell?_setCell_same' w _ _ (by rw [h.left]; rfl), by rw [World.cell?_setCell_other _ _ _ _ (by simp)]; exact h.short, by rw [World.cell?_setCell_other _ _ _ _ (by simp)]; exact h.ptr,
    by rw [World.cell?_setCell_other _ _ _ _ (by simp [h.ne])]; exact h.item, fun j => (World.frozen?_setCell _ _ _ _).trans (h.fr j), fun j => (World.frozen?_setCell _ _ _ _).trans (h.fi j),
    hr.keep fun p hp => by rw [World.cell?_setCell_other _ _ _ _ (fun e => by rw [← e] at hp; have := h.hr; simp at hp; omega)], hc, hn, h.hr, h.hi, h.ne, by simpa using h.lr, by simpa using h.li⟩
theorem Rdr.setItem (h : Rdr w rb ib B A n c L sh it) (it' : Nat) : Rdr (w.setCell ⟨ib, 0, none⟩ (.int .i64 it')) rb ib B A n c L sh it' :=
  ⟨by rw [World.cell?_setCell_other _ _ _ _ (by simp [Ne.symm h.ne])]; exact h.left, by rw [World.cell?_setCell_other _ _ _ _ (by simp)]; exact h.short, by rw [World.cell?_setCell_other _ _ _ _ (by simp)]; exact h.ptr,
    World.cell?_setCell_same' w _ _ (by rw [h.item]; rfl), fun j => (World.frozen?_setCell _ _ _ _).trans (h.fr j), fun j => (World.frozen?_setCell _ _ _ _).trans (h.fi j),
    h.rd.keep fun p hp => by rw [World.cell?_setCell_other _ _ _ _ (fun e => by rw [← e] at hp; have := h.hi; simp at hp; omega)], h.cap, h.lim, h.hr, h.hi, h.ne, by simpa using h.lr, by simpa using h.li⟩
end

/-- Something is wrong: a panic of the number x. -/
def Fails (x rb ib : Nat) (w : World) (e : Ending) (w' : World) : Prop := e = .panicked [{ v := .iface 30 (.int .i64 (x : Int)), recovered := false }] ∧ Up rb ib w w'
/-- Bytes l are taken off, L' is left. -/
def Took (rb ib B sh it : Nat) (l L' : List Nat) (w : World) (e : Ending) (w' : World) : Prop :=
  ∃ A1 m c1 A2 n2 c2, e = .returned (.slice A1 m c1) ∧ m ≤ c1 ∧ Rd .u8 256 w' B A1 m l ∧ Rdr w' rb ib B A2 n2 c2 L' sh it ∧ Up rb ib w w'

theorem cutu_to (A : Option Addr) (n c k : Nat) (hk : k ≤ n) (hnc : n ≤ c) :
    ∀ (W : World), (Instr.slice 29 (.slice A n c) none (some (.int .u64 (k : Int))) none).run Tryd.prog W = .ok (.slice A k c) W := by
  intro W
  rw [run_slice_h (P := Tryd.prog) (w := W) 29 A n c under22 .u64 (k : Int) (by omega) (by omega), elem22, size5]
  simp only [Result.andThen, sliced]
  cases A <;> simp [Addr.add]
theorem cutu_from (A : Option Addr) (n c k : Nat) (hk : k ≤ n) (hnc : n ≤ c) : ∃ A1 c1, n - k ≤ c1 ∧ c1 ≤ c ∧
    (∀ (W : World), (Instr.slice 29 (.slice A n c) (some (.int .u64 (k : Int))) none none).run Tryd.prog W = .ok (.slice A1 (n - k) c1) W) ∧
    ∀ w B l, Rd .u8 256 w B A n l → Rd .u8 256 w B A1 (n - k) (l.drop k) := by
  refine ⟨if c = k then A else A.map (·.add k), c - k, by omega, by omega, fun W => ?_, fun w B l hr => hr.drop hk hnc⟩
  rw [run_slice_l (P := Tryd.prog) (w := W) 29 A n c under22 .u64 (k : Int) (by omega) (by omega), elem22, size5]
  simp only [Result.andThen, sliced, Int.toNat_natCast, Nat.mul_one]

section
variable {w : World} {rb ib B n c sh it : Nat} {A : Option Addr} {L : List Nat}
theorem take_ok (h : Rdr w rb ib B A n c L sh it) (m : Nat) (hm : m ≤ L.length) :
    Calls Tryd.prog 83 #[.pointer (some ⟨rb, 0, none⟩), .int .u64 (m : Int)] w (Took rb ib B sh it (L.take m) (L.drop m) w) := by
  have hn := h.rd.len
  have hl := h.lim
  have hcap := h.cap
  have x0 := h.left
  have f0 := h.fr 0
  have hs1 := cutu_to A n c m (by omega) h.cap
  obtain ⟨A1, c1, hc1, hc2, hf1, hf3⟩ := cutu_from A n c m (by omega) h.cap
  have hw : IntKind.u64.wrap (n : Int) = (n : Int) := by rw [IntKind.wrap_u64]; omega
  have d : decide ((n : Int) < (m : Int)) = false := by simp; omega
  have hR := (h.rd.take (k := m) (by omega))
  have hD := hf3 _ _ _ h.rd
  have hmn : m ≤ n := by omega
  have HN := Lib.hid hn
  clear hn hf3
  go_enter Tryd.func83, Tryd.ntmps83
  go_wp2
  go_ret
  exact ⟨A, m, c, A1, n - m, c1, rfl, by omega, (h.setLeft hD hc1 (by omega)).rd.below (Below.refl _ _) |> fun _ => (hR.keep fun p hp => by rw [World.cell?_setCell_other _ _ _ _ (fun e => by rw [← e] at hp; have := h.hr; simp at hp; omega)]), h.setLeft hD hc1 (by omega), (Up.refl _ _ _).setA 0 _⟩
theorem take_no (h : Rdr w rb ib B A n c L sh it) (m : Nat) (hm : L.length < m) :
    Calls Tryd.prog 83 #[.pointer (some ⟨rb, 0, none⟩), .int .u64 (m : Int)] w (Fails sh rb ib w) := by
  have hn := h.rd.len
  have hl := h.lim
  have x0 := h.left
  have x1 := h.short
  have hw : IntKind.u64.wrap (n : Int) = (n : Int) := by rw [IntKind.wrap_u64]; omega
  have d : (n : Int) < (m : Int) := by omega
  clear hn
  go_enter Tryd.func83, Tryd.ntmps83
  go_wp2
  exact ⟨rfl, rfl, Up.refl _ _ _⟩
end
end Go.Proofs.YtikjnbognjicdaaDoor.Dec
