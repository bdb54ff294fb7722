/-
  Arguments of the laws of layer 11, opened: frames, many frames, what a head tells, bytes. No condition.
-/
import Derived.Test.YtdjncacknmejoaaFrq
import Derived.ProofKit
import Derived.OpenShut
import Derived.Carry
import Derived.Deep.Strs
import Derived.Deep.Matrix
namespace Go.Proofs.Ytdjncacknmejoaa.Fr
set_option maxRecDepth 100000
open Go.ChangeShapes Go.WideShapes Go.ChangeAt Go.RowKit Go.Deep Go.Proofs.Ytdjncacknmejoaa.Utf

theorem own : ownKnob Try.prog.godebug = none := by kernel_rfl
theorem laidOut : laidOutB Try.prog = true := by kernel_rfl
theorem cells5 : Try.prog.cellsOf 5 = 1 := by kernel_rfl
section
variable {H : Type} {enc : TypeId × Value → H}
theorem u8_of_wf {z : Int} (h : (Lit.int .u8 z).wf = true) : 0 ≤ z ∧ z.toNat < 256 := by
  have : 0 ≤ z ∧ z ≤ 255 := by simpa [Lit.wf, IntKind.min, IntKind.max, IntKind.signed, IntKind.bits] using h
  omega
theorem open_nums {K : IntKind} {M : Nat} {t et : TypeId} (ht : Try.prog.underlying t = some (.slice et)) (he : Try.prog.underlying et = some (.int K)) (hce : Try.prog.cellsOf et = 1) (hwf : ∀ z : Int, (Lit.int K z).wf = true → 0 ≤ z ∧ z.toNat < M)
    {W : World} {r : Reach} {b0 : Nat} {v : Value} {d : DataW H} {p : List MemPlace} (hval : Value.okWide Try.prog W r b0 t v) (h : DataW.Trod enc Try.prog W 0 (fun _ => true) true t v d p) (hlt : ∀ x ∈ p, x.block < W.heap.size) :
    ∃ A n c l, v = .slice A n c ∧ n ≤ c ∧ c ≤ maxLen ∧ Rd K M W W.heap.size A n l := by
  obtain ⟨a0, len, cap, rfl⟩ := okWide_slice ht hval
  obtain ⟨fuel, hf⟩ := h
  rcases open_ints ht he hce hf with ⟨hcs, hx⟩ | ⟨a, len', cap', zs, hcs, _, hl, hm, hz, hx, hcell, hwz⟩
  · simp [Value.cells] at hcs
    obtain ⟨rfl, rfl, rfl⟩ := hcs
    exact ⟨none, 0, 0, [], rfl, Nat.le_refl _, by unfold maxLen; omega, Rd.zero _ _ _ _ _⟩
  · simp [Value.cells] at hcs
    obtain ⟨rfl, rfl, rfl⟩ := hcs
    simp only [Prod.mk.injEq] at hx
    obtain ⟨rfl, rfl⟩ := hx
    simp only [if_true] at hz
    refine ⟨some a, len, cap, (zs.take len).map fun z => z.toNat, rfl, hl, hm, by simp; omega, ?_, fun hn => ?_⟩
    · intro x hx
      obtain ⟨z, hz', rfl⟩ := List.mem_map.1 hx
      exact (hwf z (hwz z (List.mem_of_mem_take hz'))).2
    obtain ⟨b, off, spot⟩ := a
    have hspot : spot = none := by simpa [Addr.add] using World.cell?_spot (hcell 0 (by omega))
    subst hspot
    refine ⟨b, off, rfl, hlt (.cell b off) (MemPlace.mem_row.2 ⟨0, by omega, by simp⟩), fun k hk => ?_⟩
    have hk' : k < len := by simp at hk; omega
    have hkz : k < zs.length := by omega
    have := hcell k hkz
    rw [add_plain] at this
    rw [this, List.getD_eq_getElem?_getD, List.getElem?_eq_getElem hkz, Option.getD_some, List.getElem_map, List.getElem_take]
    have h0 := (hwf _ (hwz _ (List.getElem_mem hkz))).1
    rw [Int.toNat_of_nonneg h0]
theorem open_byt_of {W : World} {fuel : Nat} {cs : List Value} {x : DataW H × List MemPlace} (h : DataW.trod enc Try.prog W 0 (fun _ => true) true fuel 24 cs = some x) (hlt : ∀ p ∈ x.2, p.block < W.heap.size) :
    ∃ A n c L, cs = [.slice A n c] ∧ Rd .u8 256 W W.heap.size A n L ∧ n ≤ c ∧ c ≤ maxLen := by
  rcases open_ints Try.underlying24 Try.underlying5 cells5 h with ⟨rfl, rfl⟩ | ⟨a, len, cap, zs, rfl, _, hl, hm, hz, rfl, hcell, hwz⟩
  · exact ⟨none, 0, 0, [], rfl, Rd.zero _ _ _ _ _, Nat.le_refl _, by unfold maxLen; omega⟩
  · simp only [if_true] at hz
    refine ⟨some a, len, cap, (zs.take len).map fun z => z.toNat, rfl, ⟨by simp; omega, ?_, fun hn => ?_⟩, hl, hm⟩
    · intro x hx
      obtain ⟨z, hz', rfl⟩ := List.mem_map.1 hx
      exact (u8_of_wf (hwz z (List.mem_of_mem_take hz'))).2
    · obtain ⟨b, off, spot⟩ := a
      have hspot : spot = none := by simpa [Addr.add] using World.cell?_spot (hcell 0 (by omega))
      subst hspot
      refine ⟨b, off, rfl, hlt (.cell b off) (MemPlace.mem_row.2 ⟨0, by omega, by simp⟩), fun k hk => ?_⟩
      have hk' : k < len := by simp at hk; omega
      have hkz : k < zs.length := by omega
      have := hcell k hkz
      rw [add_plain] at this
      rw [this, List.getD_eq_getElem?_getD, List.getElem?_eq_getElem hkz, Option.getD_some, List.getElem_map, List.getElem_take]
      have h0 := (u8_of_wf (hwz _ (List.getElem_mem hkz))).1
      rw [Int.toNat_of_nonneg h0]
theorem open_frame_of {W : World} {fuel : Nat} {cs : List Value} {x : DataW H × List MemPlace} (h : DataW.trod enc Try.prog W 0 (fun _ => true) true fuel 39 cs = some x) (hlt : ∀ p ∈ x.2, p.block < W.heap.size) :
    ∃ (x0 : Nat) (A1 : Option Addr) (l1 k1 : Nat) (L1 : List Nat), cs = [.int .u16 (x0 : Int), .slice A1 l1 k1] ∧ x0 < 65536 ∧ Rd .u8 256 W W.heap.size A1 l1 L1 ∧ l1 ≤ k1 ∧ k1 ≤ maxLen := by
  obtain ⟨xs, m, rfl, rfl, hl, hlen, hf⟩ := DataW.trod_struct Try.underlying39 h
  match xs, hlen with
  | [y0, y1], _ =>
    have h0 := hf 0 _ rfl
    have h1 := hf 1 _ rfl
    rw [show Try.prog.cellsOf 39 = 2 by kernel_rfl] at hl
    match cs, hl with
    | [c0, c1], _ =>
      have e0 : ((List.drop 0 [c0, c1]).take (Try.prog.cellsOf 37)) = [c0] := by rw [show Try.prog.cellsOf 37 = 1 by kernel_rfl]; rfl
      have g0 : DataW.trod enc Try.prog W 0 (fun _ => true) true m 37 [c0] = some y0 := by rw [← e0]; exact h0
      have e1 : ((List.drop 1 [c0, c1]).take (Try.prog.cellsOf 24)) = [c1] := by rw [show Try.prog.cellsOf 24 = 1 by kernel_rfl]; rfl
      have g1 : DataW.trod enc Try.prog W 0 (fun _ => true) true m 24 [c1] = some y1 := by rw [← e1]; exact h1
      obtain ⟨z0, hz0, rfl, w0⟩ := DataW.trod_int Try.underlying37 g0
      have b0 : 0 ≤ z0 ∧ z0 < 65536 := by simp [Lit.wf, IntKind.min, IntKind.max, IntKind.signed, IntKind.bits] at w0; omega
      obtain ⟨x0, rfl⟩ := Int.eq_ofNat_of_zero_le b0.1
      simp only [List.cons.injEq, and_true] at hz0
      subst hz0
      obtain ⟨A1, l1, k1, L1, hz1, hr1, hk1⟩ := open_byt_of g1 (fun p hp => hlt p (by simp [hp]))
      simp only [List.cons.injEq, and_true] at hz1
      subst hz1
      exact ⟨x0, A1, l1, k1, L1, rfl, by omega, hr1, hk1⟩
theorem open_frame {W : World} {r : Reach} {b0 : Nat} {v : Value} {d : DataW H} {p : List MemPlace} (hval : Value.okWide Try.prog W r b0 39 v) (h : DataW.Trod enc Try.prog W 0 (fun _ => true) true 39 v d p) (hlt : ∀ x ∈ p, x.block < W.heap.size) :
    ∃ (x0 : Nat) (A1 : Option Addr) (l1 k1 : Nat) (L1 : List Nat), v = .agg #[.int .u16 (x0 : Int), .slice A1 l1 k1] ∧ x0 < 65536 ∧ Rd .u8 256 W W.heap.size A1 l1 L1 ∧ l1 ≤ k1 ∧ k1 ≤ maxLen := by
  obtain ⟨cs, rfl, hsz⟩ := okWide_struct Try.underlying39 hval
  obtain ⟨fuel, hf⟩ := h
  obtain ⟨x0, A1, l1, k1, L1, hcs, hc⟩ := open_frame_of hf hlt
  simp only [Value.cells] at hcs
  refine ⟨x0, A1, l1, k1, L1, ?_, hc⟩
  congr 1
  cases cs
  simp at hcs
  simp [hcs]
theorem list_of {α : Type} {n : Nat} {Q : Nat → α → Prop} (h : ∀ i, i < n → ∃ v, Q i v) : ∃ l : List α, l.length = n ∧ ∀ (i : Nat) (v : α), l[i]? = some v → Q i v := by
  induction n with
  | zero => exact ⟨[], rfl, fun i v h => by simp at h⟩
  | succ n ih =>
    obtain ⟨l, hl, hq⟩ := ih fun i hi => h i (by omega)
    obtain ⟨v, hv⟩ := h n (by omega)
    refine ⟨l ++ [v], by simp [hl], fun i u hu => ?_⟩
    by_cases hi : i < n
    · rw [List.getElem?_append_left (by omega)] at hu
      exact hq i u hu
    · rw [List.getElem?_append_right (by omega)] at hu
      obtain rfl : i = n := by
        have := (List.getElem?_eq_some_iff.1 hu).1
        simp at this
        omega
      simp [hl] at hu
      subst hu
      exact hv
/-- Frames in memory. -/
def Frs (w : World) (A : Option Addr) (n : Nat) (fs : List (Nat × List Nat)) : Prop := n = fs.length ∧ ∀ j, j < n → ∃ b o ch body BA bl bc, A = some ⟨b, o, none⟩ ∧ b < w.heap.size ∧ fs[j]? = some (ch, body) ∧
  w.cell? ⟨b, o + j * 2, none⟩ = some (.int .u16 (ch : Int)) ∧ w.cell? ⟨b, o + j * 2 + 1, none⟩ = some (.slice BA bl bc) ∧ ch < 65536 ∧ Rd .u8 256 w w.heap.size BA bl body ∧ bl ≤ bc
theorem Frs.call {w w' : World} {A : Option Addr} {n : Nat} {fs : List (Nat × List Nat)} (h : Frs w A n fs) (hb : Below w.heap.size w w') : Frs w' A n fs :=
  ⟨h.1, fun j hj => by
    obtain ⟨b, o, ch, body, BA, bl, bc, e, hl, hx, c0, c1, hc, hr, hk⟩ := h.2 j hj
    exact ⟨b, o, ch, body, BA, bl, bc, e, Nat.lt_of_lt_of_le hl hb.size, hx, (hb.cell (p := ⟨b, o + j * 2, none⟩) hl).trans c0, (hb.cell (p := ⟨b, o + j * 2 + 1, none⟩) hl).trans c1, hc, hr.call hb, hk⟩⟩
/-- An argument of frames. -/
theorem open_frames {W : World} {r : Reach} {b0 : Nat} {v : Value} {d : DataW H} {p : List MemPlace} (hval : Value.okWide Try.prog W r b0 48 v) (h : DataW.Trod enc Try.prog W 0 (fun _ => true) true 48 v d p) (hlt : ∀ x ∈ p, x.block < W.heap.size) :
    ∃ fs A l c, v = .slice A l c ∧ l ≤ c ∧ c ≤ maxLen ∧ Frs W A l fs := by
  obtain ⟨a0, len0, cap0, rfl⟩ := okWide_slice Try.underlying48 hval
  obtain ⟨fuel, hf⟩ := h
  rcases DataW.trod_slice Try.underlying48 hf with ⟨hcs, _⟩ | ⟨a, len, cap, elems, rest, n, _, hcs, hd, _, hl, hm, hlen, hel, _, _⟩
  · simp only [Value.cells, List.cons.injEq, Value.slice.injEq, and_true] at hcs
    obtain ⟨rfl, rfl, rfl⟩ := hcs
    exact ⟨[], none, 0, 0, rfl, Nat.le_refl _, by unfold maxLen; omega, rfl, fun j hj => by omega⟩
  simp only [Value.cells, List.cons.injEq, Value.slice.injEq, and_true] at hcs
  obtain ⟨rfl, rfl, rfl⟩ := hcs
  injection hd with hd hp
  have hat : ∀ i, i < len0 → ∃ q : Nat × List Nat, ∃ cs' BA bl bc, W.cells? 0 (a.add (i * 2)) 2 = some cs' ∧ cs' = [.int .u16 (q.1 : Int), .slice BA bl bc] ∧ q.1 < 65536 ∧ Rd .u8 256 W W.heap.size BA bl q.2 ∧ bl ≤ bc := by
    intro i hi
    have he : elems[i]? = some elems[i] := List.getElem?_eq_getElem (by omega)
    have hb := hel i hi
    rw [show Try.prog.cellsOf 39 = 2 by kernel_rfl, he] at hb
    obtain ⟨cs', h1, h2⟩ := Option.bind_eq_some_iff.1 hb
    obtain ⟨x0, A1, l1, k1, L1, hq, hx0, hr1, hk1, _⟩ := open_frame_of h2 (fun x hx => hlt x (by rw [hp]; simp only [List.mem_append, List.mem_flatMap]; exact Or.inr ⟨elems[i], Or.inl (List.getElem_mem _), hx⟩))
    exact ⟨(x0, L1), cs', A1, l1, k1, h1, hq, hx0, hr1, hk1⟩
  obtain ⟨fs, hql, hq⟩ := list_of hat
  refine ⟨fs, some a, len0, cap0, rfl, hl, hm, hql.symm, fun j hj => ?_⟩
  obtain ⟨q, hx⟩ : ∃ q, fs[j]? = some q := ⟨fs[j]'(by omega), List.getElem?_eq_getElem (by omega)⟩
  obtain ⟨cs', BA, bl, bc, hc, hcs, hch, hr, hk⟩ := hq j q hx
  have hblk := World.cells?_block hc (by omega)
  obtain ⟨_, hcl, hcc⟩ := World.cells?_some hc
  obtain ⟨b, o, spot⟩ := a
  have hspot : spot = none := by
    obtain ⟨q0', hx0⟩ : ∃ q, fs[0]? = some q := ⟨fs[0]'(by omega), List.getElem?_eq_getElem (by omega)⟩
    obtain ⟨cs0, _, _, _, hc0, _⟩ := hq 0 q0' hx0
    obtain ⟨_, hcl0, hcc0⟩ := World.cells?_some hc0
    have h00 := hcc0 0 (by omega)
    obtain ⟨c0, hc00⟩ : ∃ c, cs0[0]? = some c := ⟨cs0[0]'(by omega), List.getElem?_eq_getElem (by omega)⟩
    rw [hc00] at h00
    simpa [Addr.add] using World.cell?_spot h00
  subst hspot
  subst hcs
  rw [add_plain] at hblk
  have q0 := hcc 0 (by omega)
  have q1 := hcc 1 (by omega)
  simp only [add_plain, List.getElem?_cons_zero, List.getElem?_cons_succ, Nat.add_zero] at q0 q1
  exact ⟨b, o, q.1, q.2, BA, bl, bc, rfl, hblk, hx, q0, q1, hch, hr, hk⟩
end
end Go.Proofs.Ytdjncacknmejoaa.Fr
