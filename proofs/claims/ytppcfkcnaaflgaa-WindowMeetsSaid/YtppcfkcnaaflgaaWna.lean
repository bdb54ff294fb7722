/-
  Arguments of the laws of layer 15, opened: what is done, rows of it, rows of bytes. No condition.
-/
import Derived.Test.YtppcfkcnaaflgaaEq
import Derived.ProofKit
import Derived.OpenShut
import Derived.Carry
import Derived.Deep.Strs
import Derived.Deep.Matrix
import Derived.Deep.Grids
namespace Go.Proofs.Ytppcfkcnaaflgaa.Wn
set_option maxRecDepth 100000
open Go.ChangeShapes Go.WideShapes Go.ChangeAt Go.RowKit Go.Deep Go.Proofs.Ytppcfkcnaaflgaa.Utf

theorem own : ownKnob Try.prog.godebug = none := by kernel_rfl
theorem laidOut : laidOutB Try.prog = true := by kernel_rfl
theorem cells5 : Try.prog.cellsOf 5 = 1 := by kernel_rfl
section
variable {H : Type} {enc : TypeId × Value → H}
theorem u8_of_wf {z : Int} (h : (Lit.int .u8 z).wf = true) : 0 ≤ z ∧ z.toNat < 256 := by
  have : 0 ≤ z ∧ z ≤ 255 := by simpa [Lit.wf, IntKind.min, IntKind.max, IntKind.signed, IntKind.bits] using h
  omega
theorem u32_of_wf {z : Int} (h : (Lit.int .u32 z).wf = true) : ∃ n : Nat, z = (n : Int) ∧ n < 4294967296 := by
  have : 0 ≤ z ∧ z ≤ 4294967295 := by simpa [Lit.wf, IntKind.min, IntKind.max, IntKind.signed, IntKind.bits] using h
  exact ⟨z.toNat, by omega, by omega⟩
theorem open_nums {K : IntKind} {M : Nat} {t et : TypeId} (ht : Try.prog.underlying t = some (.slice et)) (he : Try.prog.underlying et = some (.int K)) (hce : Try.prog.cellsOf et = 1) (hwf : ∀ z : Int, (Lit.int K z).wf = true → 0 ≤ z ∧ z.toNat < M)
    {W : World} {r : Reach} {b0 : Nat} {v : Value} {d : DataW H} {p : List MemPlace} (hval : Value.okWide Try.prog W r b0 t v) (h : DataW.Trod enc Try.prog W 0 (fun _ => true) true t v d p) (hlt : ∀ x ∈ p, x.block < W.heap.size) :
    ∃ A n c l, v = .slice A n c ∧ n ≤ c ∧ c ≤ maxLen ∧ Rd K M W W.heap.size A n l := by
  obtain ⟨a0, len, cap, rfl⟩ := okWide_slice ht hval
  obtain ⟨fuel, hf⟩ := h
  rcases open_ints ht he hce hf with ⟨hcs, hx⟩ | ⟨a, len', cap', zs, hcs, _, hl, hm, hz, hx, hcell, hwz⟩
  · simp [Value.cells] at hcs
    obtain ⟨rfl, rfl, rfl⟩ := hcs
    exact ⟨none, 0, 0, [], rfl, Nat.le_refl _, by unfold maxLen; omega, Rd.zero _ _ _ _ _⟩
  · simp [Value.cells] at hcs
    obtain ⟨rfl, rfl, rfl⟩ := hcs
    simp only [Prod.mk.injEq] at hx
    obtain ⟨rfl, rfl⟩ := hx
    simp only [if_true] at hz
    refine ⟨some a, len, cap, (zs.take len).map fun z => z.toNat, rfl, hl, hm, by simp; omega, ?_, fun hn => ?_⟩
    · intro x hx
      obtain ⟨z, hz', rfl⟩ := List.mem_map.1 hx
      exact (hwf z (hwz z (List.mem_of_mem_take hz'))).2
    obtain ⟨b, off, spot⟩ := a
    have hspot : spot = none := by simpa [Addr.add] using World.cell?_spot (hcell 0 (by omega))
    subst hspot
    refine ⟨b, off, rfl, hlt (.cell b off) (MemPlace.mem_row.2 ⟨0, by omega, by simp⟩), fun k hk => ?_⟩
    have hk' : k < len := by simp at hk; omega
    have hkz : k < zs.length := by omega
    have := hcell k hkz
    rw [add_plain] at this
    rw [this, List.getD_eq_getElem?_getD, List.getElem?_eq_getElem hkz, Option.getD_some, List.getElem_map, List.getElem_take]
    have h0 := (hwf _ (hwz _ (List.getElem_mem hkz))).1
    rw [Int.toNat_of_nonneg h0]
/-- Something that is done. -/
structure Op4 where
  k : Int
  N : Int
  A : Nat
  B : Nat
def Op4.ok (x : Op4) : Prop := (Lit.int .i64 x.k).wf = true ∧ (Lit.int .i64 x.N).wf = true ∧ x.A < 4294967296 ∧ x.B < 4294967296
theorem open_wop_of {W : World} {fuel : Nat} {cs : List Value} {x : DataW H × List MemPlace} (h : DataW.trod enc Try.prog W 0 (fun _ => true) true fuel 33 cs = some x) :
    ∃ q : Op4, cs = [.int .i64 q.k, .int .i64 q.N, .int .u32 (q.A : Int), .int .u32 (q.B : Int)] ∧ q.ok := by
  obtain ⟨xs, m, rfl, rfl, hl, hlen, hf⟩ := DataW.trod_struct Try.underlying33 h
  match xs, hlen with
  | [y0, y1, y2, y3], _ =>
    have h0 := hf 0 _ rfl
    have h1 := hf 1 _ rfl
    have h2 := hf 2 _ rfl
    have h3 := hf 3 _ rfl
    rw [show Try.prog.cellsOf 33 = 4 by kernel_rfl] at hl
    match cs, hl with
    | [c0, c1, c2, c3], _ =>
      have e0 : ((List.drop 0 [c0, c1, c2, c3]).take (Try.prog.cellsOf 3)) = [c0] := by rw [show Try.prog.cellsOf 3 = 1 by kernel_rfl]; rfl
      have g0 : DataW.trod enc Try.prog W 0 (fun _ => true) true m 3 [c0] = some y0 := by rw [← e0]; exact h0
      have e1 : ((List.drop 1 [c0, c1, c2, c3]).take (Try.prog.cellsOf 2)) = [c1] := by rw [show Try.prog.cellsOf 2 = 1 by kernel_rfl]; rfl
      have g1 : DataW.trod enc Try.prog W 0 (fun _ => true) true m 2 [c1] = some y1 := by rw [← e1]; exact h1
      have e2 : ((List.drop 2 [c0, c1, c2, c3]).take (Try.prog.cellsOf 22)) = [c2] := by rw [show Try.prog.cellsOf 22 = 1 by kernel_rfl]; rfl
      have g2 : DataW.trod enc Try.prog W 0 (fun _ => true) true m 22 [c2] = some y2 := by rw [← e2]; exact h2
      have e3 : ((List.drop 3 [c0, c1, c2, c3]).take (Try.prog.cellsOf 22)) = [c3] := by rw [show Try.prog.cellsOf 22 = 1 by kernel_rfl]; rfl
      have g3 : DataW.trod enc Try.prog W 0 (fun _ => true) true m 22 [c3] = some y3 := by rw [← e3]; exact h3
      obtain ⟨z0, hz0, rfl, w0⟩ := DataW.trod_int Try.underlying3 g0
      obtain ⟨z1, hz1, rfl, w1⟩ := DataW.trod_int Try.underlying2 g1
      obtain ⟨z2, hz2, rfl, w2⟩ := DataW.trod_int Try.underlying22 g2
      obtain ⟨z3, hz3, rfl, w3⟩ := DataW.trod_int Try.underlying22 g3
      simp only [List.cons.injEq, and_true] at hz0 hz1 hz2 hz3
      subst hz0 hz1 hz2 hz3
      obtain ⟨n2, rfl, b2⟩ := u32_of_wf w2
      obtain ⟨n3, rfl, b3⟩ := u32_of_wf w3
      exact ⟨⟨z0, z1, n2, n3⟩, rfl, w0, w1, b2, b3⟩
theorem list_of {α : Type} {n : Nat} {Q : Nat → α → Prop} (h : ∀ i, i < n → ∃ v, Q i v) : ∃ l : List α, l.length = n ∧ ∀ (i : Nat) (v : α), l[i]? = some v → Q i v := by
  induction n with
  | zero => exact ⟨[], rfl, fun i v h => by simp at h⟩
  | succ n ih =>
    obtain ⟨l, hl, hq⟩ := ih fun i hi => h i (by omega)
    obtain ⟨v, hv⟩ := h n (by omega)
    refine ⟨l ++ [v], by simp [hl], fun i u hu => ?_⟩
    by_cases hi : i < n
    · rw [List.getElem?_append_left (by omega)] at hu
      exact hq i u hu
    · rw [List.getElem?_append_right (by omega)] at hu
      obtain rfl : i = n := by
        have := (List.getElem?_eq_some_iff.1 hu).1
        simp at this
        omega
      simp [hl] at hu
      subst hu
      exact hv
/-- Things done, in memory. -/
def WOps (w : World) (B : Nat) (A : Option Addr) (n : Nat) (ss : List Op4) : Prop := n = ss.length ∧ ∀ j, j < n → ∃ b o x, A = some ⟨b, o, none⟩ ∧ b < B ∧ ss[j]? = some x ∧
  w.cell? ⟨b, o + j * 4, none⟩ = some (.int .i64 x.k) ∧ w.cell? ⟨b, o + j * 4 + 1, none⟩ = some (.int .i64 x.N) ∧ w.cell? ⟨b, o + j * 4 + 2, none⟩ = some (.int .u32 (x.A : Int)) ∧ w.cell? ⟨b, o + j * 4 + 3, none⟩ = some (.int .u32 (x.B : Int)) ∧ x.ok
theorem WOps.call {w w' : World} {B : Nat} {A : Option Addr} {n : Nat} {ss : List Op4} (h : WOps w B A n ss) (hb : Below B w w') : WOps w' B A n ss :=
  ⟨h.1, fun j hj => by
    obtain ⟨b, o, x, e, hl, hx, c0, c1, c2, c3, ok⟩ := h.2 j hj
    exact ⟨b, o, x, e, hl, hx, (hb.cell (p := ⟨b, o + j * 4, none⟩) hl).trans c0, (hb.cell (p := ⟨b, o + j * 4 + 1, none⟩) hl).trans c1, (hb.cell (p := ⟨b, o + j * 4 + 2, none⟩) hl).trans c2, (hb.cell (p := ⟨b, o + j * 4 + 3, none⟩) hl).trans c3, ok⟩⟩
/-- Something done, at its place in memory. -/
structure Lo (w : World) (b o k : Nat) (x : Op4) : Prop where
  c0 : w.cell? ⟨b, o + k * 4, none⟩ = some (.int .i64 x.k)
  c1 : w.cell? ⟨b, o + k * 4 + 1, none⟩ = some (.int .i64 x.N)
  c2 : w.cell? ⟨b, o + k * 4 + 2, none⟩ = some (.int .u32 (x.A : Int))
  c3 : w.cell? ⟨b, o + k * 4 + 3, none⟩ = some (.int .u32 (x.B : Int))
theorem Lo.call {w w' : World} {B b o k : Nat} {x : Op4} (h : Lo w b o k x) (hb : Below B w w') (hl : b < B) : Lo w' b o k x :=
  ⟨(hb.cell (p := ⟨b, o + k * 4, none⟩) hl).trans h.c0, (hb.cell (p := ⟨b, o + k * 4 + 1, none⟩) hl).trans h.c1, (hb.cell (p := ⟨b, o + k * 4 + 2, none⟩) hl).trans h.c2, (hb.cell (p := ⟨b, o + k * 4 + 3, none⟩) hl).trans h.c3⟩
theorem WOps.at_ {w : World} {B : Nat} {A : Option Addr} {n : Nat} {ss : List Op4} (h : WOps w B A n ss) {j : Nat} (hj : j < n) : ∃ b o x, A = some ⟨b, o, none⟩ ∧ b < B ∧ ss[j]? = some x ∧ Lo w b o j x ∧ x.ok := by
  obtain ⟨b, o, x, e, hl, hx, c0, c1, c2, c3, ok⟩ := h.2 j hj
  exact ⟨b, o, x, e, hl, hx, ⟨c0, c1, c2, c3⟩, ok⟩
/-- An argument of things done. -/
theorem open_wops {W : World} {r : Reach} {b0 : Nat} {v : Value} {d : DataW H} {p : List MemPlace} (hval : Value.okWide Try.prog W r b0 23 v) (h : DataW.Trod enc Try.prog W 0 (fun _ => true) true 23 v d p) (_ : ∀ x ∈ p, x.block < W.heap.size) :
    ∃ ss A l c, v = .slice A l c ∧ l ≤ c ∧ c ≤ maxLen ∧ WOps W W.heap.size A l ss := by
  obtain ⟨a0, len0, cap0, rfl⟩ := okWide_slice Try.underlying23 hval
  obtain ⟨fuel, hf⟩ := h
  rcases DataW.trod_slice Try.underlying23 hf with ⟨hcs, _⟩ | ⟨a, len, cap, elems, rest, n, _, hcs, hd, _, hl, hm, hlen, hel, _, _⟩
  · simp only [Value.cells, List.cons.injEq, Value.slice.injEq, and_true] at hcs
    obtain ⟨rfl, rfl, rfl⟩ := hcs
    exact ⟨[], none, 0, 0, rfl, Nat.le_refl _, by unfold maxLen; omega, rfl, fun j hj => by omega⟩
  simp only [Value.cells, List.cons.injEq, Value.slice.injEq, and_true] at hcs
  obtain ⟨rfl, rfl, rfl⟩ := hcs
  injection hd with hd hp
  have hat : ∀ i, i < len0 → ∃ q : Op4, ∃ cs', W.cells? 0 (a.add (i * 4)) 4 = some cs' ∧ cs' = [.int .i64 q.k, .int .i64 q.N, .int .u32 (q.A : Int), .int .u32 (q.B : Int)] ∧ q.ok := by
    intro i hi
    have he : elems[i]? = some elems[i] := List.getElem?_eq_getElem (by omega)
    have hb := hel i hi
    rw [show Try.prog.cellsOf 33 = 4 by kernel_rfl, he] at hb
    obtain ⟨cs', h1, h2⟩ := Option.bind_eq_some_iff.1 hb
    obtain ⟨q, hq, ok⟩ := open_wop_of h2
    exact ⟨q, cs', h1, hq, ok⟩
  obtain ⟨ss, hql, hq⟩ := list_of hat
  refine ⟨ss, some a, len0, cap0, rfl, hl, hm, hql.symm, fun j hj => ?_⟩
  obtain ⟨q, hx⟩ : ∃ q, ss[j]? = some q := ⟨ss[j]'(by omega), List.getElem?_eq_getElem (by omega)⟩
  obtain ⟨cs', hc, hcs, ok⟩ := hq j q hx
  have hblk := World.cells?_block hc (by omega)
  obtain ⟨_, hcl, hcc⟩ := World.cells?_some hc
  obtain ⟨b, o, spot⟩ := a
  have hspot : spot = none := by
    obtain ⟨q0', hx0⟩ : ∃ q, ss[0]? = some q := ⟨ss[0]'(by omega), List.getElem?_eq_getElem (by omega)⟩
    obtain ⟨cs0, hc0, _⟩ := hq 0 q0' hx0
    obtain ⟨_, hcl0, hcc0⟩ := World.cells?_some hc0
    have h00 := hcc0 0 (by omega)
    obtain ⟨c0, hc00⟩ : ∃ c, cs0[0]? = some c := ⟨cs0[0]'(by omega), List.getElem?_eq_getElem (by omega)⟩
    rw [hc00] at h00
    simpa [Addr.add] using World.cell?_spot h00
  subst hspot
  subst hcs
  rw [add_plain] at hblk
  have q0 := hcc 0 (by omega)
  have q1 := hcc 1 (by omega)
  have q2 := hcc 2 (by omega)
  have q3 := hcc 3 (by omega)
  simp only [add_plain, List.getElem?_cons_zero, List.getElem?_cons_succ, Nat.add_zero] at q0 q1 q2 q3
  exact ⟨b, o, q, rfl, hblk, hx, q0, q1, q2, q3, ok⟩
/-- An argument that is something that is done. -/
theorem open_wop {W : World} {r : Reach} {b0 : Nat} {v : Value} {d : DataW H} {p : List MemPlace} (hval : Value.okWide Try.prog W r b0 33 v) (h : DataW.Trod enc Try.prog W 0 (fun _ => true) true 33 v d p) :
    ∃ q : Op4, v = .agg #[.int .i64 q.k, .int .i64 q.N, .int .u32 (q.A : Int), .int .u32 (q.B : Int)] ∧ q.ok := by
  obtain ⟨cs, rfl, hsz⟩ := okWide_struct Try.underlying33 hval
  obtain ⟨fuel, hf⟩ := h
  obtain ⟨q, hcs, ok⟩ := open_wop_of hf
  simp only [Value.cells] at hcs
  refine ⟨q, ?_, ok⟩
  congr 1
  cases cs
  simp at hcs
  simp [hcs]
end
end Go.Proofs.Ytppcfkcnaaflgaa.Wn
