/-
  Contract of decode.Value: the value with which bytes begin, how many it has, what is wrong. Condition: at most 2^19 bytes; the table of utf.
-/
import Derived.Test.YtikjnbognjicdaaDoorDcb
import Derived.Test.YtikjnbognjicdaaDoorWkf
import Derived.Defers
import Derived.Recover
namespace Go.Proofs.YtikjnbognjicdaaDoor.Dec
set_option maxRecDepth 100000
open Go.RowKit Go.Proofs.YtikjnbognjicdaaDoor.Utf Go.Proofs.YtikjnbognjicdaaDoor.Val V

@[go_sem] theorem asrt_errno (v : Value) (w : World) : (Instr.typeAssert (.iface 30 v) 20 30 false).run Tryd.prog w = .ok v w := by kernel_rfl
theorem catch_wrong (p : Addr) (x y : Int) (older : List PanicEntry) (w : World) (hc : w.cell? p = some (.int .i64 y)) (hz : w.frozen? p = false) :
    CallsD Tryd.prog 35 #[.pointer (some p)] (.panicking ({ v := .iface 30 (.int .i64 x), recovered := false } :: older)) w fun e u' w' =>
      e = .returned (.tuple #[]) ∧ u' = .panicking ({ v := .iface 30 (.int .i64 x), recovered := true } :: older) ∧ w' = w.setCell p (.int .i64 x) := by
  refine callsD_of_wpS Tryd.func35 rfl fun c₀ cs hu => ?_
  apply wpS_seq
  apply wpS_region
  simp [wpOpsS, go_sem, recoverD, hu, Tryd.ntmps35, Exit.thenS]
  apply wpS_seq
  apply wpS_region
  simp [wpOpsS, go_sem, Exit.thenS]
  refine wpS_cond (t := true) (by simp [Act.eval]) ?_
  simp only [if_true]
  apply wpS_region
  simp [wpOpsS, go_sem, hc, hz, bodyPostS, results, Tryd.results35]
theorem catch_idle (p : Addr) (w : World) :
    CallsD Tryd.prog 35 #[.pointer (some p)] .returning w fun e u' w' => e = .returned (.tuple #[]) ∧ u' = .returning ∧ w' = w := by
  refine callsD_of_wpS Tryd.func35 rfl fun c₀ cs hu => ?_
  apply wpS_seq
  apply wpS_region
  simp [wpOpsS, go_sem, recoverD, hu, Tryd.ntmps35, Exit.thenS]
  apply wpS_seq
  apply wpS_region
  simp [wpOpsS, go_sem, Exit.thenS]
  refine wpS_cond (t := false) (by simp [Act.eval]) ?_
  simp only [Bool.false_eq_true, if_false]
  refine wpS_of_wp (wp_skip ?_)
  cases c₀
  simp_all [bodyPostS, results, Tryd.results35]

def zeroV : V := .mk 0 0 ⟨#[]⟩ []
/-- What decode.Value answers: a value, how many bytes it has, what is wrong. -/
noncomputable def decD (b : List Nat) : V × Nat × Nat := match valD (toldN b.length) 0 b with
  | .error s => (zeroV, 0, sel s 7)
  | .ok (v, _, r) => if okB v = true then (v, b.length - r.length, 0) else (zeroV, 0, 6)
def GivesD (R : V × Nat × Nat) (w : World) (e : Ending) (w' : World) : Prop :=
  ∃ A l c, e = .returned (.tuple #[.agg #[.int .u8 (R.1.kind : Int), .int .u64 (R.1.num : Int), .string R.1.text, .slice A l c], .int .i64 (R.2.1 : Int), .int .i64 (R.2.2 : Int)]) ∧ R.1.kind < 256 ∧ R.1.num < 18446744073709551616 ∧ Nw w.heap.size w' R.1.kids A l c ∧ Below w.heap.size w w'

/-- The world at the reader's start. -/
def startW (w : World) (A : Option Addr) (n c : Nat) : World :=
  (((w.alloc (.cells #[.int .u8 0, .int .u64 0, .string ⟨#[]⟩, .slice none 0 0] 25)).alloc (.cells #[.int .i64 0] 30)).alloc (.cells #[.int .i64 0] 3)).alloc (.cells #[.slice A n c, .int .i64 7, .pointer (some ⟨w.heap.size + 2, 0, none⟩)] 66)
section
variable {w : World} {A : Option Addr} {n c : Nat} {b : List Nat}
theorem start_below : Below w.heap.size w (startW w A n c) := ((((Below.refl _ w).alloc (Nat.le_refl _) _).alloc (by simp) _).alloc (by simp; omega) _).alloc (by simp; omega) _
theorem start_size : (startW w A n c).heap.size = w.heap.size + 4 := by simp [startW]
theorem start_3 : (startW w A n c).heap[w.heap.size + 3]? = some (.cells #[.slice A n c, .int .i64 7, .pointer (some ⟨w.heap.size + 2, 0, none⟩)] 66 (0, 0)) := by
  have := heap_alloc_new (((w.alloc (.cells #[.int .u8 0, .int .u64 0, .string ⟨#[]⟩, .slice none 0 0] 25)).alloc (.cells #[.int .i64 0] 30)).alloc (.cells #[.int .i64 0] 3)) (.cells #[.slice A n c, .int .i64 7, .pointer (some ⟨w.heap.size + 2, 0, none⟩)] 66)
  simpa [startW] using this
theorem start_2 : (startW w A n c).heap[w.heap.size + 2]? = some (.cells #[.int .i64 0] 3 (0, 0)) := by
  have := heap_alloc_new ((w.alloc (.cells #[.int .u8 0, .int .u64 0, .string ⟨#[]⟩, .slice none 0 0] 25)).alloc (.cells #[.int .i64 0] 30)) (.cells #[.int .i64 0] 3)
  rw [startW, Below.heap_alloc _ _ _ (by simp)]
  simpa using this
theorem start_1 : (startW w A n c).heap[w.heap.size + 1]? = some (.cells #[.int .i64 0] 30 (0, 0)) := by
  have := heap_alloc_new (w.alloc (.cells #[.int .u8 0, .int .u64 0, .string ⟨#[]⟩, .slice none 0 0] 25)) (.cells #[.int .i64 0] 30)
  rw [startW, Below.heap_alloc _ _ _ (by simp), Below.heap_alloc _ _ _ (by simp)]
  simpa using this
theorem start_0 : Box (startW w A n c) w.heap.size (.int .u8 0) (.int .u64 0) (.string ⟨#[]⟩) (.slice none 0 0) := by
  have := heap_alloc_new w (.cells #[.int .u8 0, .int .u64 0, .string ⟨#[]⟩, .slice none 0 0] 25)
  unfold Box
  rw [startW, Below.heap_alloc _ _ _ (by simp; omega), Below.heap_alloc _ _ _ (by simp; omega), Below.heap_alloc _ _ _ (by simp)]
  exact this
theorem cells_of {w : World} {g : Nat} {a : Array Value} {t : TypeId} (h : w.heap[g]? = some (.cells a t (0, 0))) : (∀ j, w.cell? ⟨g, j, none⟩ = a[j]?) ∧ ∀ j, w.frozen? ⟨g, j, none⟩ = false :=
  ⟨fun j => by simp [World.cell?, h], fun j => by simp [World.frozen?, h]⟩
theorem start_rdr (h : Rd .u8 256 w w.heap.size A n b) (hc : n ≤ c) (hn : n ≤ 1099511627776) : Rdr (startW w A n c) (w.heap.size + 3) (w.heap.size + 2) w.heap.size A n c b 7 0 := by
  obtain ⟨a1, a2⟩ := cells_of (start_3 (w := w) (A := A) (n := n) (c := c))
  obtain ⟨b1, b2⟩ := cells_of (start_2 (w := w) (A := A) (n := n) (c := c))
  exact ⟨by rw [a1]; rfl, by rw [a1]; rfl, by rw [a1]; rfl, by rw [b1]; rfl, a2, b2, h.below start_below, hc, hn, by omega, by omega, by omega, by rw [start_size]; omega, by rw [start_size]; omega⟩

set_option maxHeartbeats 2000000 in
theorem dec_wrong (h : Rd .u8 256 w w.heap.size A n b) (hc : n ≤ c) (hn : n ≤ 524288) {s : Bool} (hv : valD (toldN b.length) 0 b = .error s) : Calls Tryd.prog 18 #[.slice A n c] w (GivesD (zeroV, 0, sel s 7) w) := by
  have hmf : ∀ (fn : Fn) (first cap : Array Value) (w : World), (Instr.makeFunc fn first cap).run Tryd.prog w = .ok (.func fn first cap) w := fun _ _ _ _ => rfl
  obtain ⟨W4, hW4⟩ : ∃ W4, startW w A n c = W4 := ⟨_, rfl⟩
  have hA := value_any (told_any b.length) (hW4 ▸ start_rdr h hc (by omega)) (by omega) (Nat.le_refl _)
  rw [hv] at hA
  have hB : Below w.heap.size w W4 := hW4 ▸ start_below
  have hs : W4.heap.size = w.heap.size + 4 := hW4 ▸ start_size
  have h0 : Box W4 w.heap.size (.int .u8 0) (.int .u64 0) (.string ⟨#[]⟩) (.slice none 0 0) := hW4 ▸ start_0
  have h1 : W4.heap[w.heap.size + 1]? = some (.cells #[.int .i64 0] 30 (0, 0)) := hW4 ▸ start_1
  unfold startW at hW4
  go_enter_defers Tryd.func18, Tryd.ntmps18
  go_wp2_with ((go_at_call 36; refine hA.mono ?_; rintro e w5 ⟨rfl, hu5⟩))
  have hs5 := hu5.size
  have h5 : w5.heap[w.heap.size + 1]? = some (.cells #[.int .i64 0] 30 (0, 0)) := (hu5.block _ (by omega) (by omega) (by omega)).trans h1
  have hb5 := Box.up h0 hu5 (by omega) (by omega)
  obtain ⟨c5, f5⟩ := cells_of h5
  refine leaves_cons (f := 35) (args := #[.pointer (some ⟨w.heap.size + 1, 0, none⟩)]) (by simp) (by simp [go_sem]) ?_
  refine (catch_wrong ⟨w.heap.size + 1, 0, none⟩ _ 0 [] _ (by rw [c5]; rfl) (f5 0)).mono ?_
  rintro e u' w6 ⟨rfl, rfl, rfl⟩
  have hb6 := hb5.far (p := ⟨w.heap.size + 1, 0, none⟩) (by simp) (.int .i64 (sel s 7 : Int))
  obtain ⟨z0, z1, z2, z3, zf⟩ := hb6.all
  have hup : Below w.heap.size w (w5.setCell ⟨w.heap.size + 1, 0, none⟩ (.int .i64 (sel s 7 : Int))) := (((Up.of hB).trans hu5).far (by omega) 0 _).below (by omega) (by omega) (Nat.le_refl _)
  have z9 : (w5.setCell ⟨w.heap.size + 1, 0, none⟩ (.int .i64 (sel s 7 : Int))).cell? ⟨w.heap.size + 1, 0, none⟩ = some (.int .i64 (sel s 7 : Int)) := World.cell?_setCell_same' _ _ _ (by rw [c5]; rfl)
  simp [Leaves, settle, results, Tryd.results18, go_sem, z0, z1, z2, z3, z9]
  exact ⟨none, 0, 0, rfl, (by show 0 < 256; omega), (by show 0 < 18446744073709551616; omega), Val.Kids.none_ _ _ _ _ _, hup⟩

theorem dec_up {W4 w5 : World} (hB : Below w.heap.size w W4) (hu5 : Up (w.heap.size + 3) (w.heap.size + 2) W4 w5) (x y z u : Value) : Below w.heap.size w ((((w5.setCell ⟨w.heap.size, 0, none⟩ x).setCell ⟨w.heap.size, 1, none⟩ y).setCell ⟨w.heap.size, 2, none⟩ z).setCell ⟨w.heap.size, 3, none⟩ u) :=
  (up_set4 ((Up.of hB).trans hu5) (Nat.le_refl _) x y z u).below (by omega) (by omega) (Nat.le_refl _)
theorem dec_bulk {M it : Nat} {v : V} (h1 : items v + 0 = it) (h2 : bulk v ≤ items v * (M + 1)) (hit : it ≤ 1024) (hM : M ≤ 524288) : bulk v ≤ 1073741824 := by
  have : items v * (M + 1) ≤ 1024 * 524289 := Nat.mul_le_mul (by omega) (by omega)
  omega
theorem dec_errno {W4 w5 w7 : World} (h1 : W4.heap[w.heap.size + 1]? = some (.cells #[.int .i64 0] 30 (0, 0))) (hs : W4.heap.size = w.heap.size + 4) (hu5 : Up (w.heap.size + 3) (w.heap.size + 2) W4 w5) (x y z u : Value)
    (hb : Below ((((w5.setCell ⟨w.heap.size, 0, none⟩ x).setCell ⟨w.heap.size, 1, none⟩ y).setCell ⟨w.heap.size, 2, none⟩ z).setCell ⟨w.heap.size, 3, none⟩ u).heap.size ((((w5.setCell ⟨w.heap.size, 0, none⟩ x).setCell ⟨w.heap.size, 1, none⟩ y).setCell ⟨w.heap.size, 2, none⟩ z).setCell ⟨w.heap.size, 3, none⟩ u) w7) :
    w7.heap[w.heap.size + 1]? = some (.cells #[.int .i64 0] 30 (0, 0)) := by
  have := hu5.size
  rw [hb.block _ (by rw [size_four]; omega), heap_four _ _ _ _ _ _ _ (by omega), hu5.block _ (by omega) (by omega) (by omega)]
  exact h1

/-- The world at the end. -/
def endW (w w7 : World) (x y z u : Value) (m : Int) : World :=
  ((((w7.setCell ⟨w.heap.size, 0, none⟩ x).setCell ⟨w.heap.size, 1, none⟩ y).setCell ⟨w.heap.size, 2, none⟩ z).setCell ⟨w.heap.size, 3, none⟩ u).setCell ⟨w.heap.size + 1, 0, none⟩ (.int .i64 m)
theorem dec_end {w7 : World} {a0 a1 a2 a3 : Value} (hb : Box w7 w.heap.size a0 a1 a2 a3) (he : w7.heap[w.heap.size + 1]? = some (.cells #[.int .i64 0] 30 (0, 0))) (hB : Below w.heap.size w w7) (x y z u : Value) (m : Int) :
    Box (endW w w7 x y z u m) w.heap.size x y z u ∧ (endW w w7 x y z u m).cell? ⟨w.heap.size + 1, 0, none⟩ = some (.int .i64 m) ∧ Below w.heap.size w (endW w w7 x y z u m) ∧
      ∀ S ks A l c, w.heap.size + 1 < S → Nw S w7 ks A l c → Nw w.heap.size (endW w w7 x y z u m) ks A l c := by
  have e1 : ((((w7.setCell ⟨w.heap.size, 0, none⟩ x).setCell ⟨w.heap.size, 1, none⟩ y).setCell ⟨w.heap.size, 2, none⟩ z).setCell ⟨w.heap.size, 3, none⟩ u).heap[w.heap.size + 1]? = some (.cells #[.int .i64 0] 30 (0, 0)) := (heap_four _ _ _ _ _ _ _ (by omega)).trans he
  refine ⟨(hb.set4 x y z u).far (p := ⟨w.heap.size + 1, 0, none⟩) (by simp) _, World.cell?_setCell_same' _ _ _ (by rw [(cells_of e1).1]; rfl), ?_, fun S ks A l c hS hk => ?_⟩
  · have h1 : Up w.heap.size (w.heap.size + 1) w w7 := Up.of hB
    exact ((up_set4 h1 (Nat.le_refl _) x y z u).far (by omega) 0 _).below (by omega) (by omega) (Nat.le_refl _)
  · have h2 := Nw_four hk (show w.heap.size < S by omega) x y z u
    exact (h2.keep fun i hi => Below.heap_setCell _ _ _ _ (by simp; omega)).mono fun i hi => ⟨by omega, by rw [endW]; simpa using hi.2⟩

set_option maxHeartbeats 4000000 in
theorem dec_read (h : Rd .u8 256 w w.heap.size A n b) (hc : n ≤ c) (hn : n ≤ 524288) (hTab : Tab w) {v : V} {it : Nat} {r : List Nat} (hv : valD (toldN b.length) 0 b = .ok (v, it, r)) :
    Calls Tryd.prog 18 #[.slice A n c] w (GivesD (if okB v = true then (v, b.length - r.length, 0) else (zeroV, 0, 6)) w) := by
  have hmf : ∀ (fn : Fn) (first cap : Array Value) (w : World), (Instr.makeFunc fn first cap).run Tryd.prog w = .ok (.func fn first cap) w := fun _ _ _ _ => rfl
  obtain ⟨W4, hW4⟩ : ∃ W4, startW w A n c = W4 := ⟨_, rfl⟩
  have hA := value_any (told_any b.length) (hW4 ▸ start_rdr h hc (by omega)) (by omega) (Nat.le_refl _)
  rw [hv] at hA
  have hB : Below w.heap.size w W4 := hW4 ▸ start_below
  have hs : W4.heap.size = w.heap.size + 4 := hW4 ▸ start_size
  have h0 : Box W4 w.heap.size (.int .u8 0) (.int .u64 0) (.string ⟨#[]⟩) (.slice none 0 0) := hW4 ▸ start_0
  have h1 : W4.heap[w.heap.size + 1]? = some (.cells #[.int .i64 0] 30 (0, 0)) := hW4 ▸ start_1
  obtain ⟨⟨hf1, hf2⟩, hrl⟩ := val_fit hv
  have hbn : b.length = n := h.len
  have hT4 : Tab W4 := hTab.call hB
  unfold startW at hW4
  have HS := Lib.hid hs
  have HBN := Lib.hid hbn
  have HF1 := Lib.hid hf1
  have HF2 := Lib.hid hf2
  clear hs hbn hf1 hf2
  by_cases hok : okB v = true
  · rw [if_pos hok]
    obtain ⟨N, hN⟩ : ∃ N, b.length - r.length = N := ⟨_, rfl⟩
    rw [hN]
    have HN := Lib.hid hN
    have HRL := Lib.hid hrl
    have HOK := Lib.hid hok
    clear hN hrl hok
    go_enter_defers Tryd.func18, Tryd.ntmps18
    go_wp2_with (first
      | (go_at_call 36; refine hA.mono ?_; rintro e w5 ⟨⟨Av, lv, cv, rfl, hvk, hvn, hnv⟩, hit5, ⟨A5, n5, c5, hR5⟩, hu5⟩; have hb5 := Box.up h0 hu5 (by omega) (by omega); obtain ⟨y0, y1, y2, y3, yf⟩ := hb5.all; have hs5 := hu5.size; have hup6 := dec_up hB hu5 (.int .u8 (v.kind : Int)) (.int .u64 (v.num : Int)) (.string v.text) (.slice Av lv cv); have hbk := dec_bulk HF1.out HF2.out hit5 (show b.length ≤ 524288 by have := HBN.out; omega); have hk6 := Nw_four hnv (show w.heap.size < W4.heap.size by have := HS.out; omega) (.int .u8 (v.kind : Int)) (.int .u64 (v.num : Int)) (.string v.text) (.slice Av lv cv))
      | (go_at_call 20; refine (vright_any v.kind v.num v.text v.kids Av lv cv _ (Nat.le_trans (Nat.le_of_lt (kids_bulk v)) hbk) (Nat.le_trans (Nat.le_of_lt (text_bulk v)) hbk) hvn hk6.kd (hTab.call hup6)).mono ?_; rintro e w7 ⟨rfl, hb7⟩; rw [← eta, HOK.out]; have hR7 := (hR5.far4 (show w.heap.size ≤ w.heap.size from Nat.le_refl _) (show w.heap.size ≠ w.heap.size + 3 by omega) (show w.heap.size ≠ w.heap.size + 2 by omega) (.int .u8 (v.kind : Int)) (.int .u64 (v.num : Int)) (.string v.text) (.slice Av lv cv)).call hb7; have hx7 := hR7.left; have h57 := dec_errno h1 HS.out hu5 (.int .u8 (v.kind : Int)) (.int .u64 (v.num : Int)) (.string v.text) (.slice Av lv cv) hb7; obtain ⟨c7, f7⟩ := cells_of h57; have hb7x := (Box.set4 hb5 (.int .u8 (v.kind : Int)) (.int .u64 (v.num : Int)) (.string v.text) (.slice Av lv cv)).call hb7; obtain ⟨z0, z1, z2, z3, zf⟩ := hb7x.all; have hup7 := below_next hup6 hb7; have hk7 := hk6.call hb7; have hn5 : n5 = r.length := hR5.rd.len.symm; have f70 := f7 0; have c70 := c7 0))
    have hwn : IntKind.i64.wrap ((n : Int) - (n5 : Int)) = (N : Int) := by have := HN.out; have := HRL.out; have := HBN.out; rw [IntKind.wrap_i64]; omega
    clear hn5
    go_region
    obtain ⟨q0, q1, q2, q3⟩ := dec_end hb7x h57 hup7 (.int .u8 (v.kind : Int)) (.int .u64 (v.num : Int)) (.string v.text) (.slice Av lv cv) 0
    obtain ⟨p0, p1, p2, p3, pf⟩ := q0.all
    go_wp2
    refine leaves_cons (f := 35) (args := #[.pointer (some ⟨w.heap.size + 1, 0, none⟩)]) (by simp) (by simp [go_sem]) ?_
    refine (catch_idle ⟨w.heap.size + 1, 0, none⟩ _).mono ?_
    rintro e u' w9 ⟨rfl, rfl, rfl⟩
    unfold endW at p0 p1 p2 p3 q1
    simp [Leaves, settle, results, Tryd.results18, go_sem, p0, p1, p2, p3, q1]
    exact ⟨Av, lv, cv, rfl, hvk, hvn, (q3 _ _ _ _ _ (by have := HS.out; omega) hk7).call (Below.refl _ _).drew, q2.drew⟩
  · rw [if_neg hok]
    have hok : okB v = false := by simpa using hok
    have HOK := Lib.hid hok
    clear hok
    go_enter_defers Tryd.func18, Tryd.ntmps18
    go_wp2_with (first
      | (go_at_call 36; refine hA.mono ?_; rintro e w5 ⟨⟨Av, lv, cv, rfl, hvk, hvn, hnv⟩, hit5, ⟨A5, n5, c5, hR5⟩, hu5⟩; have hb5 := Box.up h0 hu5 (by omega) (by omega); obtain ⟨y0, y1, y2, y3, yf⟩ := hb5.all; have hs5 := hu5.size; have hup6 := dec_up hB hu5 (.int .u8 (v.kind : Int)) (.int .u64 (v.num : Int)) (.string v.text) (.slice Av lv cv); have hbk := dec_bulk HF1.out HF2.out hit5 (show b.length ≤ 524288 by have := HBN.out; omega); have hk6 := Nw_four hnv (show w.heap.size < W4.heap.size by have := HS.out; omega) (.int .u8 (v.kind : Int)) (.int .u64 (v.num : Int)) (.string v.text) (.slice Av lv cv))
      | (go_at_call 20; refine (vright_any v.kind v.num v.text v.kids Av lv cv _ (Nat.le_trans (Nat.le_of_lt (kids_bulk v)) hbk) (Nat.le_trans (Nat.le_of_lt (text_bulk v)) hbk) hvn hk6.kd (hTab.call hup6)).mono ?_; rintro e w7 ⟨rfl, hb7⟩; rw [← eta, HOK.out]; have hR7 := (hR5.far4 (show w.heap.size ≤ w.heap.size from Nat.le_refl _) (show w.heap.size ≠ w.heap.size + 3 by omega) (show w.heap.size ≠ w.heap.size + 2 by omega) (.int .u8 (v.kind : Int)) (.int .u64 (v.num : Int)) (.string v.text) (.slice Av lv cv)).call hb7; have hx7 := hR7.left; have h57 := dec_errno h1 HS.out hu5 (.int .u8 (v.kind : Int)) (.int .u64 (v.num : Int)) (.string v.text) (.slice Av lv cv) hb7; obtain ⟨c7, f7⟩ := cells_of h57; have hb7x := (Box.set4 hb5 (.int .u8 (v.kind : Int)) (.int .u64 (v.num : Int)) (.string v.text) (.slice Av lv cv)).call hb7; obtain ⟨z0, z1, z2, z3, zf⟩ := hb7x.all; have hup7 := below_next hup6 hb7; have hk7 := hk6.call hb7; have hn5 : n5 = r.length := hR5.rd.len.symm; have f70 := f7 0; have c70 := c7 0))
    obtain ⟨q0, q1, q2, q3⟩ := dec_end hb7x h57 hup7 (.int .u8 0) (.int .u64 0) (.string ⟨#[]⟩) (.slice none 0 0) 6
    obtain ⟨p0, p1, p2, p3, pf⟩ := q0.all
    refine leaves_cons (f := 35) (args := #[.pointer (some ⟨w.heap.size + 1, 0, none⟩)]) (by simp) (by simp [go_sem]) ?_
    refine (catch_idle ⟨w.heap.size + 1, 0, none⟩ _).mono ?_
    rintro e u' w9 ⟨rfl, rfl, rfl⟩
    unfold endW at p0 p1 p2 p3 q1
    simp [Leaves, settle, results, Tryd.results18, go_sem, p0, p1, p2, p3, q1]
    exact ⟨none, 0, 0, rfl, (by show 0 < 256; omega), (by show 0 < 18446744073709551616; omega), Val.Kids.none_ _ _ _ _ _, q2⟩
/-- What decode.Value answers. -/
theorem dec_any (h : Rd .u8 256 w w.heap.size A n b) (hc : n ≤ c) (hn : n ≤ 524288) (hTab : Tab w) : Calls Tryd.prog 18 #[.slice A n c] w (GivesD (decD b) w) := by
  unfold decD
  cases hv : valD (toldN b.length) 0 b with
  | error s => exact dec_wrong h hc hn hv
  | ok p =>
    obtain ⟨v, it, r⟩ := p
    exact dec_read h hc hn hTab hv
end
end Go.Proofs.YtikjnbognjicdaaDoor.Dec
