/-
  Arguments of the laws of layer 10, opened: messages, many bytes, which sections, what a header tells. No condition.
-/
import Derived.Test.YtneanfjcncdfdaaGreatDoorY03
import Derived.Test.YtneanfjcncdfdaaGreatDoorY20
import Derived.Deep.Strs
import Derived.Deep.Matrix

namespace Go.Proofs.YtneanfjcncdfdaaGreatDoor.Me
set_option maxRecDepth 100000
open Go.ChangeShapes Go.WideShapes Go.ChangeAt Go.RowKit Go.Deep Utf Val V
variable {H : Type} {enc : TypeId × Value → H}
theorem open_byt_of {W : World} {fuel : Nat} {cs : List Value} {x : DataW H × List MemPlace} (h : DataW.trod enc Tryz.prog W 0 (fun _ => true) true fuel 23 cs = some x) (hlt : ∀ p ∈ x.2, p.block < W.heap.size) :
    ∃ A n c L, cs = [.slice A n c] ∧ Rd .u8 256 W W.heap.size A n L ∧ n ≤ c ∧ c ≤ maxLen := by
  rcases open_ints Tryz.underlying23 Tryz.underlying5 cells5 h with ⟨rfl, rfl⟩ | ⟨a, len, cap, zs, rfl, _, hl, hm, hz, rfl, hcell, hwz⟩
  · exact ⟨none, 0, 0, [], rfl, Rd.zero _ _ _ _ _, Nat.le_refl _, by unfold maxLen; omega⟩
  · simp only [if_true] at hz
    refine ⟨some a, len, cap, (zs.take len).map fun z => z.toNat, rfl, ⟨by simp; omega, ?_, fun hn => ?_⟩, hl, hm⟩
    · intro x hx
      obtain ⟨z, hz', rfl⟩ := List.mem_map.1 hx
      exact (u8_of_wf (hwz z (List.mem_of_mem_take hz'))).2
    · obtain ⟨b, off, spot⟩ := a
      have hspot : spot = none := by simpa [Addr.add] using World.cell?_spot (hcell 0 (by omega))
      subst hspot
      refine ⟨b, off, rfl, hlt (.cell b off) (MemPlace.mem_row.2 ⟨0, by omega, by simp⟩), fun k hk => ?_⟩
      have hk' : k < len := by simp at hk; omega
      have hkz : k < zs.length := by omega
      have := hcell k hkz
      rw [add_plain] at this
      rw [this, List.getD_eq_getElem?_getD, List.getElem?_eq_getElem hkz, Option.getD_some, List.getElem_map, List.getElem_take]
      have h0 := (u8_of_wf (hwz _ (List.getElem_mem hkz))).1
      rw [Int.toNat_of_nonneg h0]
theorem open_msg_of {W : World} {fuel : Nat} {cs : List Value} {x : DataW H × List MemPlace} (h : DataW.trod enc Tryz.prog W 0 (fun _ => true) true fuel 25 cs = some x) (hlt : ∀ p ∈ x.2, p.block < W.heap.size) :
    ∃ (p ttl n : Nat) (id : ByteArray) (A : Option Addr) (l c : Nat) (b : List Nat), cs = [.int .u8 (p : Int), .int .u32 (ttl : Int), .int .u32 (n : Int), .string id, .slice A l c] ∧ p < 256 ∧ ttl < 4294967296 ∧ n < 4294967296 ∧ Rd .u8 256 W W.heap.size A l b ∧ l ≤ c ∧ c ≤ maxLen := by
  obtain ⟨xs, m, rfl, rfl, hl, hlen, hf⟩ := DataW.trod_struct Tryz.underlying25 h
  match xs, hlen with
  | [y0, y1, y2, y3, y4], _ =>
    have h0 := hf 0 _ rfl
    have h1 := hf 1 _ rfl
    have h2 := hf 2 _ rfl
    have h3 := hf 3 _ rfl
    have h4 := hf 4 _ rfl
    rw [show Tryz.prog.cellsOf 25 = 5 by kernel_rfl] at hl
    match cs, hl with
    | [c0, c1, c2, c3, c4], _ =>
      have e0 : ((List.drop 0 [c0, c1, c2, c3, c4]).take (Tryz.prog.cellsOf 5)) = [c0] := by rw [show Tryz.prog.cellsOf 5 = 1 by kernel_rfl]; rfl
      have g0 : DataW.trod enc Tryz.prog W 0 (fun _ => true) true m 5 [c0] = some y0 := by rw [← e0]; exact h0
      have e1 : ((List.drop 1 [c0, c1, c2, c3, c4]).take (Tryz.prog.cellsOf 22)) = [c1] := by rw [show Tryz.prog.cellsOf 22 = 1 by kernel_rfl]; rfl
      have g1 : DataW.trod enc Tryz.prog W 0 (fun _ => true) true m 22 [c1] = some y1 := by rw [← e1]; exact h1
      have e2 : ((List.drop 2 [c0, c1, c2, c3, c4]).take (Tryz.prog.cellsOf 22)) = [c2] := by rw [show Tryz.prog.cellsOf 22 = 1 by kernel_rfl]; rfl
      have g2 : DataW.trod enc Tryz.prog W 0 (fun _ => true) true m 22 [c2] = some y2 := by rw [← e2]; exact h2
      have e3 : ((List.drop 3 [c0, c1, c2, c3, c4]).take (Tryz.prog.cellsOf 9)) = [c3] := by rw [show Tryz.prog.cellsOf 9 = 1 by kernel_rfl]; rfl
      have g3 : DataW.trod enc Tryz.prog W 0 (fun _ => true) true m 9 [c3] = some y3 := by rw [← e3]; exact h3
      have e4 : ((List.drop 4 [c0, c1, c2, c3, c4]).take (Tryz.prog.cellsOf 23)) = [c4] := by rw [show Tryz.prog.cellsOf 23 = 1 by kernel_rfl]; rfl
      have g4 : DataW.trod enc Tryz.prog W 0 (fun _ => true) true m 23 [c4] = some y4 := by rw [← e4]; exact h4
      obtain ⟨z0, hz0, rfl, w0⟩ := DataW.trod_int Tryz.underlying5 g0
      have b0 : 0 ≤ z0 ∧ z0 < 256 := by simp [Lit.wf, IntKind.min, IntKind.max, IntKind.signed, IntKind.bits] at w0; omega
      obtain ⟨x0, rfl⟩ := Int.eq_ofNat_of_zero_le b0.1
      simp only [List.cons.injEq, and_true] at hz0
      subst hz0
      obtain ⟨z1, hz1, rfl, w1⟩ := DataW.trod_int Tryz.underlying22 g1
      have b1 : 0 ≤ z1 ∧ z1 < 4294967296 := by simp [Lit.wf, IntKind.min, IntKind.max, IntKind.signed, IntKind.bits] at w1; omega
      obtain ⟨x1, rfl⟩ := Int.eq_ofNat_of_zero_le b1.1
      simp only [List.cons.injEq, and_true] at hz1
      subst hz1
      obtain ⟨z2, hz2, rfl, w2⟩ := DataW.trod_int Tryz.underlying22 g2
      have b2 : 0 ≤ z2 ∧ z2 < 4294967296 := by simp [Lit.wf, IntKind.min, IntKind.max, IntKind.signed, IntKind.bits] at w2; omega
      obtain ⟨x2, rfl⟩ := Int.eq_ofNat_of_zero_le b2.1
      simp only [List.cons.injEq, and_true] at hz2
      subst hz2
      obtain ⟨t3, hz3, rfl, _⟩ := DataW.trod_string under9 g3
      simp only [List.cons.injEq, and_true] at hz3
      subst hz3
      obtain ⟨A4, l4, k4, L4, hz4, hr4, hk4⟩ := open_byt_of g4 (fun p hp => hlt p (by simp [hp]))
      simp only [List.cons.injEq, and_true] at hz4
      subst hz4
      exact ⟨x0, x1, x2, t3, A4, l4, k4, L4, rfl, by omega, by omega, by omega, hr4, hk4⟩
theorem open_msg {W : World} {r : Reach} {b0 : Nat} {v : Value} {d : DataW H} {p : List MemPlace} (hval : Value.okWide Tryz.prog W r b0 25 v) (h : DataW.Trod enc Tryz.prog W 0 (fun _ => true) true 25 v d p) (hlt : ∀ x ∈ p, x.block < W.heap.size) :
    ∃ (p ttl n : Nat) (id : ByteArray) (A : Option Addr) (l c : Nat) (b : List Nat), v = .agg #[.int .u8 (p : Int), .int .u32 (ttl : Int), .int .u32 (n : Int), .string id, .slice A l c] ∧ p < 256 ∧ ttl < 4294967296 ∧ n < 4294967296 ∧ Rd .u8 256 W W.heap.size A l b ∧ l ≤ c ∧ c ≤ maxLen := by
  obtain ⟨cs, rfl, hsz⟩ := okWide_struct Tryz.underlying25 hval
  obtain ⟨fuel, hf⟩ := h
  obtain ⟨p, ttl, n, id, A, l, c, b, hcs, hc⟩ := open_msg_of hf hlt
  simp only [Value.cells] at hcs
  refine ⟨p, ttl, n, id, A, l, c, b, ?_, hc⟩
  congr 1
  cases cs
  simp at hcs
  simp [hcs]
theorem open_some_of {W : World} {fuel : Nat} {cs : List Value} {x : DataW H × List MemPlace} (h : DataW.trod enc Tryz.prog W 0 (fun _ => true) true fuel 42 cs = some x) (hlt : ∀ p ∈ x.2, p.block < W.heap.size) :
    ∃ (A : Option Addr) (l c : Nat) (b : List Nat) (A' : Option Addr) (l' c' : Nat) (b' : List Nat) (q : Bool), cs = [.slice A l c, .slice A' l' c', .bool q] ∧ Rd .u8 256 W W.heap.size A l b ∧ (l ≤ c ∧ c ≤ maxLen) ∧ Rd .u8 256 W W.heap.size A' l' b' ∧ l' ≤ c' ∧ c' ≤ maxLen := by
  obtain ⟨xs, m, rfl, rfl, hl, hlen, hf⟩ := DataW.trod_struct Tryz.underlying42 h
  match xs, hlen with
  | [y0, y1, y2], _ =>
    have h0 := hf 0 _ rfl
    have h1 := hf 1 _ rfl
    have h2 := hf 2 _ rfl
    rw [show Tryz.prog.cellsOf 42 = 3 by kernel_rfl] at hl
    match cs, hl with
    | [c0, c1, c2], _ =>
      have e0 : ((List.drop 0 [c0, c1, c2]).take (Tryz.prog.cellsOf 23)) = [c0] := by rw [show Tryz.prog.cellsOf 23 = 1 by kernel_rfl]; rfl
      have g0 : DataW.trod enc Tryz.prog W 0 (fun _ => true) true m 23 [c0] = some y0 := by rw [← e0]; exact h0
      have e1 : ((List.drop 1 [c0, c1, c2]).take (Tryz.prog.cellsOf 23)) = [c1] := by rw [show Tryz.prog.cellsOf 23 = 1 by kernel_rfl]; rfl
      have g1 : DataW.trod enc Tryz.prog W 0 (fun _ => true) true m 23 [c1] = some y1 := by rw [← e1]; exact h1
      have e2 : ((List.drop 2 [c0, c1, c2]).take (Tryz.prog.cellsOf 4)) = [c2] := by rw [show Tryz.prog.cellsOf 4 = 1 by kernel_rfl]; rfl
      have g2 : DataW.trod enc Tryz.prog W 0 (fun _ => true) true m 4 [c2] = some y2 := by rw [← e2]; exact h2
      obtain ⟨A0, l0, k0, L0, hz0, hr0, hk0⟩ := open_byt_of g0 (fun p hp => hlt p (by simp [hp]))
      simp only [List.cons.injEq, and_true] at hz0
      subst hz0
      obtain ⟨A1, l1, k1, L1, hz1, hr1, hk1⟩ := open_byt_of g1 (fun p hp => hlt p (by simp [hp]))
      simp only [List.cons.injEq, and_true] at hz1
      subst hz1
      obtain ⟨q2, hz2, rfl⟩ := DataW.trod_bool Tryz.underlying4 g2
      simp only [List.cons.injEq, and_true] at hz2
      subst hz2
      exact ⟨A0, l0, k0, L0, A1, l1, k1, L1, q2, rfl, hr0, hk0, hr1, hk1⟩
theorem open_some {W : World} {r : Reach} {b0 : Nat} {v : Value} {d : DataW H} {p : List MemPlace} (hval : Value.okWide Tryz.prog W r b0 42 v) (h : DataW.Trod enc Tryz.prog W 0 (fun _ => true) true 42 v d p) (hlt : ∀ x ∈ p, x.block < W.heap.size) :
    ∃ (A : Option Addr) (l c : Nat) (b : List Nat) (A' : Option Addr) (l' c' : Nat) (b' : List Nat) (q : Bool), v = .agg #[.slice A l c, .slice A' l' c', .bool q] ∧ Rd .u8 256 W W.heap.size A l b ∧ (l ≤ c ∧ c ≤ maxLen) ∧ Rd .u8 256 W W.heap.size A' l' b' ∧ l' ≤ c' ∧ c' ≤ maxLen := by
  obtain ⟨cs, rfl, hsz⟩ := okWide_struct Tryz.underlying42 hval
  obtain ⟨fuel, hf⟩ := h
  obtain ⟨A, l, c, b, A', l', c', b', q, hcs, hc⟩ := open_some_of hf hlt
  simp only [Value.cells] at hcs
  refine ⟨A, l, c, b, A', l', c', b', q, ?_, hc⟩
  congr 1
  cases cs
  simp at hcs
  simp [hcs]
/-- Many bytes in memory: of each its slice, and how it reads. -/
def Ps (w : World) (B : Nat) (A : Option Addr) (n : Nat) (F : Nat → Option Addr) (L C : Nat → Nat) (Z : Nat → List Nat) : Prop :=
  ∀ r, r < n → ∃ b o, A = some ⟨b, o, none⟩ ∧ b < B ∧ w.cell? ⟨b, o + r, none⟩ = some (.slice (F r) (L r) (C r)) ∧ L r ≤ C r ∧ Rd .u8 256 w B (F r) (L r) (Z r)
theorem Ps.below {w w' : World} {B : Nat} {A : Option Addr} {n : Nat} {F : Nat → Option Addr} {L C : Nat → Nat} {Z : Nat → List Nat} (h : Ps w B A n F L C Z) (hb : Below B w w') : Ps w' B A n F L C Z := fun r hr => by
  obtain ⟨b, o, e, hbB, hc, hl, hr'⟩ := h r hr
  exact ⟨b, o, e, hbB, (hb.cell (p := ⟨b, o + r, none⟩) hbB).trans hc, hl, hr'.below hb⟩
theorem cells23 : Tryz.prog.cellsOf 23 = 1 := by kernel_rfl
theorem open_parts {W : World} {r : Reach} {b0 : Nat} {v : Value} {d : DataW H} {p : List MemPlace} (hval : Value.okWide Tryz.prog W r b0 34 v) (h : DataW.Trod enc Tryz.prog W 0 (fun _ => true) true 34 v d p) (hlt : ∀ x ∈ p, x.block < W.heap.size) :
    ∃ A n c F L C Z, v = .slice A n c ∧ n ≤ c ∧ c ≤ maxLen ∧ Ps W W.heap.size A n F L C Z := by
  obtain ⟨a0, len, cap, rfl⟩ := okWide_slice Tryz.underlying34 hval
  obtain ⟨fuel, hf⟩ := h
  rcases open_int_rows Tryz.underlying34 Tryz.underlying23 Tryz.underlying5 cells23 cells5 hf with ⟨hcs, hx⟩ | ⟨a, len', cap', A, L, C, Z, hcs, _, hl, hm, hx, hcell⟩
  · simp [Value.cells] at hcs
    obtain ⟨rfl, rfl, rfl⟩ := hcs
    exact ⟨none, 0, 0, fun _ => none, fun _ => 0, fun _ => 0, fun _ => [], rfl, Nat.le_refl _, by unfold maxLen; omega, fun r hr => absurd hr (by omega)⟩
  · simp [Value.cells] at hcs
    obtain ⟨rfl, rfl, rfl⟩ := hcs
    simp only [Prod.mk.injEq] at hx
    obtain ⟨rfl, rfl⟩ := hx
    refine ⟨some a, len, cap, A, L, C, fun r => ((Z r).take (L r)).map fun z => z.toNat, rfl, hl, hm, fun r hr => ?_⟩
    obtain ⟨hc, hLC, hCm, hZ, hwf, hnil, hin⟩ := hcell r (by omega)
    obtain ⟨b, off, spot⟩ := a
    have hspot : spot = none := by simpa [Addr.add] using World.cell?_spot (hcell 0 (by omega)).1
    subst hspot
    rw [add_plain] at hc
    refine ⟨b, off, rfl, hlt (.cell b off) (List.mem_append_left _ (MemPlace.mem_row.2 ⟨0, by omega, by simp⟩)), hc, hLC, by simp; omega, ?_, fun hn => ?_⟩
    · intro x hx
      obtain ⟨z, hz', rfl⟩ := List.mem_map.1 hx
      exact (u8_of_wf (hwf z (List.mem_of_mem_take hz'))).2
    cases hA : A r with
    | none => have := hnil hA; omega
    | some a' =>
      obtain ⟨_, hcells⟩ := hin a' hA
      obtain ⟨b', off', spot'⟩ := a'
      have hspot' : spot' = none := by simpa [Addr.add] using World.cell?_spot (hcells 0 (by omega))
      subst hspot'
      refine ⟨b', off', rfl, hlt (.cell b' off') (List.mem_append_right _ (List.mem_flatMap.2 ⟨r, List.mem_range.2 (by omega), ?_⟩)), fun k hk => ?_⟩
      · simp only [intRowPlaces, hA]
        exact MemPlace.mem_row.2 ⟨0, by omega, by simp⟩
      · have hk' : k < L r := by simp at hk; omega
        have hkz : k < (Z r).length := by omega
        have := hcells k (by omega)
        rw [add_plain] at this
        rw [this, List.getD_eq_getElem?_getD, List.getElem?_eq_getElem hkz, Option.getD_some, List.getElem_map, List.getElem_take]
        have h0 := (u8_of_wf (hwf _ (List.getElem_mem hkz))).1
        rw [Int.toNat_of_nonneg h0]
end Go.Proofs.YtneanfjcncdfdaaGreatDoor.Me
