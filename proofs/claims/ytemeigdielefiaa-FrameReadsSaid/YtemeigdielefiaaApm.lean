/-
  Contract of the laws' Apart, of as many rows of bytes of one's own as you like, in blocks unlike. All memory is as it was behind it. No other condition.
-/
import Derived.Test.YtemeigdielefiaaApt
namespace Go.Proofs.Ytemeigdielefiaa.Apt
set_option maxRecDepth 100000
open Go.RowKit Go.Proofs.Ytemeigdielefiaa.Utf Go.Proofs.Ytemeigdielefiaa.Val

/-- Rows of one's own, in blocks unlike, and the row of them all. -/
structure Mny (w : World) (g m base : Nat) (F : Nat → Option Addr) (N C : Nat → Nat) (L : Nat → List Nat) : Prop where
  row : ∀ i, i < m → w.cell? ⟨g, i, none⟩ = some (.slice (F i) (N i) (C i))
  lt : g < w.heap.size
  own : ∀ i, i < m → Utf.Own .u8 256 5 w base (F i) (N i) (C i) (L i)
  ne : ∀ i k, i < m → k < m → i ≠ k → ∀ b b' o, F i = some ⟨b, 0, none⟩ → F k = some ⟨b', o, none⟩ → b' ≠ b
section
variable {w w' : World} {g m base : Nat} {F : Nat → Option Addr} {N C : Nat → Nat} {L : Nat → List Nat}
theorem Mny.call (h : Mny w g m base F N C L) (hb : Below w.heap.size w w') : Mny w' g m base F N C L :=
  ⟨fun i hi => (hb.cell (p := ⟨g, i, none⟩) h.lt).trans (h.row i hi), Nat.lt_of_lt_of_le h.lt hb.size, fun i hi => (h.own i hi).below hb, h.ne⟩
theorem Mny.held (h : Mny w g m base F N C L) {i k : Nat} (hi : i < m) (hk : k < m) (hb : Below w.heap.size w w') : w'.cell? ⟨g, i, none⟩ = some (.slice (F i) (N i) (C i)) ∧ w'.cell? ⟨g, k, none⟩ = some (.slice (F k) (N k) (C k)) ∧ Below w.heap.size w w' :=
  ⟨(h.call hb).row i hi, (h.call hb).row k hk, hb⟩
theorem Mny.meets (h : Mny w g m base F N C L) {i k : Nat} (hi : i < m) (hk : k < m) (hne : i ≠ k) : Calls Try.prog 21 #[.slice (F i) (C i) (C i), .slice (F k) (N k) (C k)] w (Val.GivesB false w) :=
  meet_any base (N i) (C i) (F i) (L i) _ (N k) (C k) (F k) (L k) w (h.own i hi) (h.own k hk).rd fun b b' o e e' => h.ne i k hi hk hne b b' o e e'
end
set_option maxHeartbeats 2000000 in
theorem apart_many (w : World) (g m c base : Nat) (F : Nat → Option Addr) (N C : Nat → Nat) (L : Nat → List Nat) (h : Mny w g m base F N C L) (hm : m ≤ 1048576) : Calls Try.prog 15 #[.slice (some ⟨g, 0, none⟩) m c] w (Val.GivesB true w) := by
  have s1 := fun i => (cut_cap (F i) (N i) (C i)).1
  have s2 := fun i => (cut_cap (F i) (N i) (C i)).2
  have HH := Lib.hid h
  clear h
  go_enter Try.func15, Try.ntmps15
  go_wp2
  go_loopw [3] (fun i wx => ∃ j : Nat, j ≤ m ∧ i = .int .i64 (j : Nat) ∧ Below w.heap.size w wx) (fun i _ => m - (intOf i).toNat)
  case atStart => exact ⟨0, by omega, rfl, Below.refl _ _⟩
  case round =>
    obtain ⟨j, hj, rfl, hb⟩ := hrel
    rename World => wa
    have HB := Lib.hid hb
    have HD := Lib.hid (HH.out.call hb)
    clear hb
    by_cases hlt : j < m
    · have d1 : decide ((j : Int) < (m : Int)) = true := by simp; omega
      have i0 : (0 : Int) ≤ (j : Int) := by omega
      have i1 : (j : Int) < (m : Int) := by omega
      go_wp2
      go_loopw [4] (fun i wx => ∃ k : Nat, k ≤ m ∧ i = .int .i64 (k : Nat) ∧ Below wa.heap.size wa wx) (fun i _ => m - (intOf i).toNat)
      case atStart => exact ⟨0, by omega, rfl, Below.refl _ _⟩
      case round =>
        obtain ⟨k, hk, rfl, hb2⟩ := hrel
        have HD2 := Lib.hid (HD.out.call hb2)
        have HB2 := Lib.hid hb2
        have hH0 : Below wr.heap.size wr wr.drew := (Below.refl _ _).drew
        have hc0 := hH0
        clear hb2
        by_cases hkm : k < m
        · have d2 : decide ((k : Int) < (m : Int)) = true := by simp; omega
          have k0 : (0 : Int) ≤ (k : Int) := by omega
          have k1 : (k : Int) < (m : Int) := by omega
          have HK1 := Lib.hid (show k + 1 ≤ m by omega)
          by_cases hjk : j = k
          · have e1 : ((j : Int) != (k : Int)) = false := by simp; omega
            have e2 : (j != k) = false := by simp; omega
            clear hjk
            go_upto_region 7 with fail
            go_quiet (fail)
            go_wp2
            go_roundw
            case rel => exact ⟨k + 1, HK1.out, by go_num, below_drewN HB2.out _⟩
            case measure => (simp [intOf]; omega)
          · have e1 : ((j : Int) != (k : Int)) = true := by simp; omega
            have e2 : (j != k) = true := by simp; omega
            have HNE := Lib.hid hjk
            obtain ⟨z0, z1, _⟩ := HD2.out.held hlt hkm (Below.refl _ _)
            clear hjk
            go_upto_region 7 with fail
            go_region_held3 (fun wx => wx.cell? ⟨g, j, none⟩ = some (.slice (F j) (N j) (C j)) ∧ wx.cell? ⟨g, k, none⟩ = some (.slice (F k) (N k) (C k)) ∧ Below wr.heap.size wr wx) (with_reducible first | assumption | exact Mny.held HD2.out hlt hkm hH0 | exact Mny.held HD2.out hlt hkm hc1 | fail)
              (first
              | (go_at_call 21; (with_reducible refine (Mny.meets (Mny.call HD2.out hc0) hlt hkm HNE.out).mono ?_); rintro e w8 ⟨rfl, hb8⟩; have hc1 := below_next hc0 hb8)
              | fail)
            all_goals
              go_wp2
              go_roundw
              case rel => exact ⟨k + 1, HK1.out, by go_num, below_next HB2.out hc1⟩
              case measure => (simp [intOf]; omega)
        · obtain rfl : k = m := by omega
          have d2 : decide ((k : Int) < (k : Int)) = false := by simp
          have HJ1 := Lib.hid (show j + 1 ≤ k by omega)
          go_wp2
          go_roundw
          case rel => exact ⟨j + 1, HJ1.out, by go_num, below_next HB.out HB2.out⟩
          case measure => (simp [intOf]; omega)
    · obtain rfl : j = m := by omega
      have d1 : decide ((j : Int) < (j : Int)) = false := by simp
      go_wp2
      go_ret
      exact ⟨rfl, HB.out⟩
end Go.Proofs.Ytemeigdielefiaa.Apt
