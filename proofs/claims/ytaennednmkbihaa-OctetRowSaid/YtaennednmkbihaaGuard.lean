/-
  Contracts of the laws' helpers 'guarded' and 'whole': bytes in memory of their own with eight others behind them, and that they are as they were. Condition: at most 65536 bytes.
-/
import Derived.Test.YtaennednmkbihaaWorks
import Derived.ProofKit
import Derived.OpenShut
import Derived.Carry
namespace Go.Proofs.Ytaennednmkbihaa.Oct
open Go.RowKit

def g8 : List UInt8 := [165, 165, 165, 165, 165, 165, 165, 165]

/-- A guarded slice: l, and within its room eight bytes more. -/
def Gd (w : World) (base : Nat) (A : Option Addr) (n c : Nat) (l : List UInt8) : Prop := l.length = n ∧ Own w base A (n + 8) c (l ++ g8)

section
variable {w w' : World} {base n c : Nat} {A : Option Addr} {l : List UInt8}
theorem Gd.rd (h : Gd w base A n c l) : Rd w w.heap.size A n l := by
  have := h.2.rd.take (k := n) (by omega)
  rwa [List.take_append_of_le_length (by rw [h.1]; omega), List.take_of_length_le (by rw [h.1]; omega)] at this
theorem Gd.below (h : Gd w base A n c l) (hb : Below w.heap.size w w') : Gd w' base A n c l := ⟨h.1, h.2.below hb⟩
theorem Gd.cap (h : Gd w base A n c l) : n + 8 ≤ c := h.2.cap.1
theorem Gd.addr (h : Gd w base A n c l) : ∃ g, A = some ⟨g, 0, none⟩ ∧ base ≤ g ∧ g < w.heap.size := by
  obtain ⟨g, cap, hv, h1, h2⟩ := World.ownsRow.form h.2 (by omega)
  injection hv with hv _ _
  exact ⟨g, hv, h1, h2⟩
/-- Kept by whatever leaves its block alone. -/
theorem Gd.far (h : Gd w base A n c l) {row : Option Nat} (hg : w.grownBy w' row) (hne : (Value.slice A (n + 8) c).ownBlock ≠ row) : Gd w' base A n c l := ⟨h.1, World.ownsRow.kept h.2 hg (.inr hne)⟩
end

def GivesG (base : Nat) (n : Nat) (l : List UInt8) (w : World) (e : Ending) (w' : World) : Prop := ∃ A c, e = .returned (.slice A n c) ∧ Gd w' base A n c l ∧ Below base w w'

theorem guarded_any (A : Option Addr) (n c : Nat) (l : List UInt8) (w : World) (hr : Rd w w.heap.size A n l) (hn : n ≤ 65536) :
    Calls Try.prog 10 #[.slice A n c] w (GivesG w.heap.size n l w) := by
  have ho0 : Own (w.alloc (.cells #[] 5)) w.heap.size (some ⟨w.heap.size, 0, none⟩) 0 0 [] := own_lit w w.heap.size 0 [] rfl (by unfold maxLen; omega) (Nat.le_refl _)
  have hr0 : Rd (w.alloc (.cells #[] 5)) w.heap.size A n l := hr.alloc (Nat.le_refl _) _
  have hb0 : Below w.heap.size w (w.alloc (.cells #[] 5)) := (Below.refl _ _).alloc (Nat.le_refl _) _
  have tok : True := trivial
  go_enter Try.func10, Try.ntmps10
  go_wp2_with (first
    | (at_builtin; have _t := tok; refine wpList_app (l := l) (L := []) rfl _ _ rfl rfl ho0 rfl hr0 (by omega) hb0.size ?_; clear tok _t; intro A2 c2 w2 hown2 hgrow2; simp only [Nat.zero_add, List.nil_append] at hown2; have hb2 := hb0.trans (below_grown ho0 hgrow2 hb0.size); have hz2 := hb2.size)
    | (at_builtin; refine wpList_app (l := g8) (L := l) (B := w2.heap.size + 1) rfl _ _ rfl rfl (hown2.alloc _) rfl (rd_lit w2 g8 8 rfl) (by omega) (by simp; omega) ?_; intro A3 c3 w3 hown3 hgrow3; have hb3 := (hb2.alloc hz2 _).trans (below_grown (hown2.alloc _) hgrow3 (by simp; omega)); have hc3 := hown3.cap.1))
  go_ret
  exact ⟨A3, c3, rfl, ⟨hr.len, hown3⟩, hb3⟩

theorem whole_any (base B : Nat) (A A' : Option Addr) (n c c' : Nat) (l : List UInt8) (w : World) (hg : Gd w base A n c l) (hr : Rd w B A' n l) (hn : n ≤ 65536) :
    Calls Try.prog 15 #[.slice A n c, .slice A' n c'] w fun e w' => e = .returned (.bool true) ∧ w = w' := by
  have hs1 := run_str c hg.rd
  have hs2 := run_str c' hr
  have hc := hg.cap
  have hcm := hg.2.cap.2
  unfold maxLen at hcm
  have hrd := hg.2.rd
  obtain ⟨g, rfl, _, _⟩ := hg.addr
  clear hr
  go_enter Try.func15, Try.ntmps15
  go_wp2
  go_loop [6] (fun i => ∃ k : Nat, k ≤ 8 ∧ i = .int .i64 k) (fun i => 8 - (intOf i).toNat)
  case atStart => exact ⟨0, by omega, rfl⟩
  case round =>
    obtain ⟨k, hk, rfl⟩ := hrel
    by_cases hlt : k < 8
    · obtain ⟨b, o, c1, e, hb, hx, hc1⟩ := hrd.at_ (k := n + k) (by omega)
      injection e with e
      injection e with e1 e2
      subst e1
      subst e2
      have h165 : c1 = 165 := by
        rw [List.getElem?_append_right (by rw [hg.1]; omega), hg.1, Nat.add_sub_cancel_left] at hx
        obtain rfl | rfl | rfl | rfl | rfl | rfl | rfl | rfl : k = 0 ∨ k = 1 ∨ k = 2 ∨ k = 3 ∨ k = 4 ∨ k = 5 ∨ k = 6 ∨ k = 7 := by omega
        all_goals exact (Option.some.inj hx).symm
      subst h165
      rw [Nat.zero_add] at hc1
      clear hx
      go_wp2
      exact ⟨⟨k + 1, by omega, by go_num⟩, by simp [intOf]; omega⟩
    · go_wp2
      go_ret
      exact ⟨rfl, rfl⟩

theorem own : ownKnob Try.prog.godebug = none := by kernel_rfl
theorem laidOut : laidOutB Try.prog = true := by kernel_rfl
theorem cells5 : Try.prog.cellsOf 5 = 1 := by kernel_rfl

section
open Go.ChangeShapes Go.WideShapes Go.ChangeAt
variable {H : Type} {enc : TypeId × Value → H}

theorem u8_of_wf {z : Int} (h : (Lit.int .u8 z).wf = true) : z = ((UInt8.ofNat z.toNat).toNat : Int) := by
  have : 0 ≤ z ∧ z ≤ 255 := by simpa [Lit.wf, IntKind.min, IntKind.max, IntKind.signed, IntKind.bits] using h
  simp
  omega

/-- An argument []byte, opened: it is a slice that is read. -/
theorem open_bytes {W : World} {r : Reach} {b0 : Nat} {v : Value} {d : DataW H} {p : List MemPlace} (hval : Value.okWide Try.prog W r b0 22 v) (h : DataW.Trod enc Try.prog W 0 (fun _ => true) true 22 v d p) (hlt : ∀ x ∈ p, x.block < W.heap.size) :
    ∃ A n c l, v = .slice A n c ∧ n ≤ c ∧ c ≤ maxLen ∧ Rd W W.heap.size A n l := by
  obtain ⟨a0, len, cap, rfl⟩ := okWide_slice Try.underlying22 hval
  obtain ⟨fuel, hf⟩ := h
  rcases open_ints Try.underlying22 Try.underlying5 cells5 hf with ⟨hcs, hx⟩ | ⟨a, len', cap', zs, hcs, _, hl, hm, hz, hx, hcell, hwz⟩
  · simp [Value.cells] at hcs
    obtain ⟨rfl, rfl, rfl⟩ := hcs
    exact ⟨none, 0, 0, [], rfl, Nat.le_refl _, by unfold maxLen; omega, Rd.zero _ _ _⟩
  · simp [Value.cells] at hcs
    obtain ⟨rfl, rfl, rfl⟩ := hcs
    simp only [Prod.mk.injEq] at hx
    obtain ⟨rfl, rfl⟩ := hx
    simp only [if_true] at hz
    refine ⟨some a, len, cap, (zs.take len).map fun z => UInt8.ofNat z.toNat, rfl, hl, hm, by simp; omega, fun hn => ?_⟩
    obtain ⟨b, off, spot⟩ := a
    have hspot : spot = none := by simpa [Addr.add] using World.cell?_spot (hcell 0 (by omega))
    subst hspot
    refine ⟨b, off, rfl, hlt (.cell b off) (MemPlace.mem_row.2 ⟨0, by omega, by simp⟩), fun k hk => ?_⟩
    have hk' : k < len := by simp at hk; omega
    have hkz : k < zs.length := by omega
    have := hcell k hkz
    rw [add_plain] at this
    rw [this, List.getD_eq_getElem?_getD, List.getElem?_eq_getElem hkz, Option.getD_some, List.getElem_map, List.getElem_take]
    exact congrArg (fun z => some (Value.int IntKind.u8 z)) (u8_of_wf (hwz _ (List.getElem_mem hkz)))
end

end Go.Proofs.Ytaennednmkbihaa.Oct
