/-
  Contracts of the laws' meet and Apart: two rows of bytes of one's own, in blocks unlike, do not meet; all memory is as it was behind it. No other condition.
-/
import Derived.Test.YtemeigdielefiaaMem
import Derived.Test.YtemeigdielefiaaStack
import Derived.Deep.RegionHeld3
import Derived.Deep.CutRange
import Derived.Deep.RegionLaw
import Derived.Deep.QuietTactic
import Derived.BigQuiet
namespace Go.Proofs.Ytemeigdielefiaa.Apt
set_option maxRecDepth 100000
open Go.RowKit Go.Proofs.Ytemeigdielefiaa.Utf Go.Proofs.Ytemeigdielefiaa.Val

/-- A block of bytes, in a world of which all else is as in w. -/
structure MR (w wr : World) (g : Nat) (L : List Nat) : Prop where
  row : wr.heap[g]? = some (.cells (vs .u8 L).toArray 5 (0, 0))
  oth : ∀ i, i ≠ g → wr.heap[i]? = w.heap[i]?
  size : wr.heap.size = w.heap.size
  os : wr.os = w.os
  tape : wr.tape = w.tape
  output : wr.output = w.output
theorem vs_set (L : List Nat) (j y : Nat) : (vs .u8 L).toArray.setIfInBounds j (.int .u8 (y : Int)) = (vs .u8 (L.set j y)).toArray := by
  simp [vs, List.map_set]
theorem MR.store {w wr : World} {g j y : Nat} {L : List Nat} (h : MR w wr g L) : MR w (wr.setCell ⟨g, j, none⟩ (.int .u8 (y : Int))) g (L.set j y) := by
  refine ⟨?_, fun i hi => (Below.heap_setCell wr ⟨g, j, none⟩ _ i hi).trans (h.oth i hi), by simpa using h.size, h.os, h.tape, h.output⟩
  have := h.row
  simp [World.setCell, Array.getElem?_modify, this]
  simpa using vs_set L j y
theorem MR.cell {w wr : World} {g j y : Nat} {L : List Nat} (h : MR w wr g L) (hj : L[j]? = some y) : wr.cell? ⟨g, j, none⟩ = some (.int .u8 (y : Int)) := by
  rw [cell_of_row wr g j _ _ _ h.row]
  simp [vs, hj]
theorem MR.frz {w wr : World} {g : Nat} {L : List Nat} (h : MR w wr g L) (j : Nat) : wr.frozen? ⟨g, j, none⟩ = false := by
  have := h.row
  simp [World.frozen?, this]
theorem MR.rd {w wr : World} {g B n : Nat} {A : Option Addr} {L l : List Nat} (h : MR w wr g L) (hr : Rd .u8 256 w B A n l) (hne : ∀ b o, A = some ⟨b, o, none⟩ → b ≠ g) : Rd .u8 256 wr B A n l := by
  refine ⟨hr.1, hr.2.1, fun hn => ?_⟩
  obtain ⟨b, o, e, hb, hc⟩ := hr.2.2 hn
  refine ⟨b, o, e, hb, fun k hk => ?_⟩
  rw [← hc k hk]
  simp only [World.cell?, h.oth b (hne b o e)]
theorem MR.below {w wr : World} {g : Nat} {L : List Nat} (h : MR w wr g L) (h0 : w.heap[g]? = some (.cells (vs .u8 L).toArray 5 (0, 0))) : Below w.heap.size w wr :=
  ⟨h.os, h.tape, h.output, Nat.le_of_eq h.size.symm, fun k _ => by
    by_cases hk : k = g
    · rw [hk, h.row, h0]
    · exact h.oth k hk⟩
/-- The row's own bytes, all its places. -/
theorem own_all {w : World} {base n c : Nat} {A : Option Addr} {L : List Nat} (h : Utf.Own .u8 256 5 w base A n c L) : (A = none ∧ c = 0) ∨ ∃ g CL, A = some ⟨g, 0, none⟩ ∧ w.heap[g]? = some (.cells (vs .u8 CL).toArray 5 (0, 0)) ∧ CL.length = c ∧ ∀ x ∈ CL, x < 256 := by
  rcases h.2.1.2 with ⟨e, _⟩ | ⟨g, cap, cur, e, _, hg, _, _, hsz, _⟩
  · injection e with e1 _ e3
    exact .inl ⟨e1, e3⟩
  · injection e with e1 _ e3
    subst e3
    have hq := h.2.2 g (by rw [e1]; rfl) cur _ _ hg
    have : ∀ l : List Value, (∀ u ∈ l, Nb .u8 256 u) → ∃ CL : List Nat, l = vs .u8 CL ∧ ∀ x ∈ CL, x < 256 := by
      intro l
      induction l with
      | nil => intro _; exact ⟨[], rfl, fun _ h => (by cases h)⟩
      | cons u l ih =>
        intro hl
        obtain ⟨x, hx, rfl⟩ := hl u (by simp)
        obtain ⟨CL, hCL, hlim⟩ := ih fun v hv => hl v (by simp [hv])
        exact ⟨x :: CL, by simp [vs, hCL], fun y hy => by rcases List.mem_cons.1 hy with rfl | hy; exact hx; exact hlim y hy⟩
    obtain ⟨CL, hCL, hlim⟩ := this cur.toList hq
    refine .inr ⟨g, CL, e1, ?_, ?_, hlim⟩
    · rw [hg, ← hCL]
    · have h1 := congrArg List.length hCL
      rw [vs_length] at h1
      rw [← h1]
      simpa using hsz

def f128 (x : Nat) : Nat := (x + 128) % 256
theorem f_f {x : Nat} (h : x < 256) : f128 (f128 x) = x := by unfold f128; omega
def turn (L : List Nat) (j : Nat) : List Nat := (L.take j).map f128 ++ L.drop j
theorem turn_zero (L : List Nat) : turn L 0 = L := by simp [turn]
theorem turn_all (L : List Nat) : turn L L.length = L.map f128 := by simp [turn]
theorem turn_at {L : List Nat} {j x : Nat} (h : L[j]? = some x) : (turn L j)[j]? = some x := by
  have hj := (List.getElem?_eq_some_iff.1 h).1
  unfold turn
  rw [List.getElem?_append_right (by simp; omega)]
  simp only [List.length_map, List.length_take, List.getElem?_drop]
  rw [show j + (j - min j L.length) = j by omega]
  exact h
theorem turn_set {L : List Nat} {j x : Nat} (h : L[j]? = some x) : (turn L j).set j (f128 x) = turn L (j + 1) := by
  obtain ⟨hj, e⟩ := List.getElem?_eq_some_iff.1 h
  unfold turn
  rw [List.set_append_right _ _ (by simp; omega), List.drop_eq_getElem_cons hj]
  simp only [List.length_map, List.length_take]
  rw [show j - min j L.length = 0 by omega, List.set_cons_zero, List.take_succ_eq_append_getElem hj, List.map_append, e]
  simp
theorem back (L : List Nat) (h : ∀ x ∈ L, x < 256) : (L.map f128).map f128 = L := by
  rw [List.map_map]
  conv => rhs; rw [← List.map_id L]
  exact List.map_congr_left fun x hx => f_f (h x hx)
theorem map_at {L : List Nat} {j : Nat} (h : j < L.length) : ∃ x, L[j]? = some x ∧ (L.map f128)[j]? = some (f128 x) := ⟨L[j], List.getElem?_eq_getElem h, by simp [List.getElem?_eq_getElem h]⟩

set_option maxHeartbeats 2000000 in
/-- meet, of rows in blocks unlike. -/
theorem meet_any (base n c : Nat) (A : Option Addr) (L : List Nat) (B' m d : Nat) (A' : Option Addr) (l : List Nat) (w : World) (ho : Utf.Own .u8 256 5 w base A n c L) (hr : Rd .u8 256 w B' A' m l) (hne : ∀ g b o, A = some ⟨g, 0, none⟩ → A' = some ⟨b, o, none⟩ → b ≠ g) :
    Calls Try.prog 21 #[.slice A c c, .slice A' m d] w (Val.GivesB false w) := by
  have hc : c ≤ 9223372036854775807 := by have := ho.cap.2; unfold maxLen at this; omega
  rcases own_all ho with ⟨rfl, rfl⟩ | ⟨g, CL, rfl, hrow, hlen, hlim⟩
  · have hst := run_str d hr
    go_enter Try.func21, Try.ntmps21
    go_wp2
    go_loopw [6] (fun i wx => i = .int .i64 0 ∧ wx = w) (fun _ _ => 0)
    case atStart => exact ⟨rfl, rfl⟩
    case round =>
      obtain ⟨rfl, rfl⟩ := hrel
      rename World => wa
      go_wp2
      go_loopw [8] (fun i wx => i = .int .i64 0 ∧ wx = wa) (fun _ _ => 0)
      case atStart => exact ⟨rfl, rfl⟩
      case round =>
        obtain ⟨rfl, rfl⟩ := hrel
        go_wp2
        go_ret
        exact ⟨rfl, Below.refl _ _⟩
  · have hst := run_str d hr
    have HM0 : Hid (MR w w g (turn CL 0)) := Lib.hid ⟨by rw [turn_zero]; exact hrow, fun _ _ => rfl, rfl, rfl, rfl, rfl⟩
    have HR := Lib.hid hr
    have HNE := Lib.hid (fun b o e => hne g b o rfl e)
    have HROW := Lib.hid hrow
    have HLIM := Lib.hid hlim
    have HLEN := Lib.hid hlen
    clear ho hr hrow hlim hlen hne
    go_enter Try.func21, Try.ntmps21
    go_wp2
    clear hst
    go_loopw [6] (fun i wx => ∃ j : Nat, j ≤ c ∧ i = .int .i64 (j : Nat) ∧ MR w wx g (turn CL j)) (fun i _ => c - (intOf i).toNat)
    case atStart => exact ⟨0, by omega, rfl, HM0.out⟩
    case round =>
      obtain ⟨j, hj, rfl, hM⟩ := hrel
      clear HM0
      by_cases hlt : j < c
      · obtain ⟨x, hx⟩ : ∃ x, CL[j]? = some x := ⟨_, List.getElem?_eq_getElem (by have := HLEN.out; omega)⟩
        have hx256 : x < 256 := HLIM.out x (List.mem_of_getElem? hx)
        have hcl := hM.cell (turn_at hx)
        have hfz := hM.frz j
        have HS := Lib.hid (hM.store (j := j) (y := f128 x))
        have hfx : ((x : Int) + 128) % 256 = ((f128 x : Nat) : Int) := by unfold f128; omega
        have HX := Lib.hid hx
        obtain ⟨y, hy⟩ : ∃ y, f128 x = y := ⟨_, rfl⟩
        have HY := Lib.hid hy
        rw [hy] at hfx HS
        clear hM hx hy
        go_wp2
        go_roundw
        case rel => exact ⟨j + 1, hlt, by go_num, by have := HS.out; rw [← HY.out, turn_set HX.out, HY.out] at this; exact this⟩
        case measure => (simp [intOf]; omega)
      · obtain rfl : j = c := by omega
        rename World => wa
        have hM1 : MR w wa g (CL.map f128) := by rw [← turn_all, HLEN.out]; exact hM
        have hst := run_str d (hM1.rd HR.out HNE.out)
        have HM1 : Hid (MR w wa g (turn (CL.map f128) 0)) := Lib.hid (by rw [turn_zero]; exact hM1)
        clear hM hM1
        go_wp2
        clear hst
        go_loopw [8] (fun i wx => ∃ k : Nat, k ≤ j ∧ i = .int .i64 (k : Nat) ∧ MR w wx g (turn (CL.map f128) k)) (fun i _ => j - (intOf i).toNat)
        case atStart => exact ⟨0, by omega, rfl, HM1.out⟩
        case round =>
          obtain ⟨k, hk, rfl, hM⟩ := hrel
          clear HM1
          by_cases hlt : k < j
          · obtain ⟨z, hz, hx⟩ := map_at (L := CL) (j := k) (by have := HLEN.out; omega)
            obtain ⟨x, hxe⟩ : ∃ x, f128 z = x := ⟨_, rfl⟩
            rw [hxe] at hx
            have hx256 : x < 256 := by rw [← hxe]; unfold f128; omega
            have hcl := hM.cell (turn_at hx)
            have hfz := hM.frz k
            have HS := Lib.hid (hM.store (j := k) (y := f128 x))
            have hfx : ((x : Int) + 128) % 256 = ((f128 x : Nat) : Int) := by unfold f128; omega
            have HX := Lib.hid hx
            obtain ⟨y, hy⟩ : ∃ y, f128 x = y := ⟨_, rfl⟩
            have HY := Lib.hid hy
            rw [hy] at hfx HS
            clear hM hx hy hz hxe
            go_wp2
            go_roundw
            case rel => exact ⟨k + 1, hlt, by go_num, by have := HS.out; rw [← HY.out, turn_set HX.out, HY.out] at this; exact this⟩
            case measure => (simp [intOf]; omega)
          · obtain rfl : k = j := by omega
            have hM2 : MR w wr g CL := by
              have h1 := turn_all (CL.map f128)
              rw [List.length_map, HLEN.out, back CL HLIM.out] at h1
              rw [← h1]; exact hM
            have HB := Lib.hid (hM2.below HROW.out)
            clear hM hM2
            go_wp2
            go_ret
            exact ⟨rfl, HB.out⟩
theorem cut_cap (A : Option Addr) (n c : Nat) :
    (∀ (W : World), (Instr.slice 23 (.slice A n c) none (some (.int .i64 (c : Int))) none).run Try.prog W = .ok (.slice A c c) W) ∧ (∀ (W : World), (Instr.sliceAt 23 (.slice A n c) none (some (.int .i64 (c : Int))) none).run Try.prog W = .ok (.slice A c c) W) := by
  have h1 : ∀ (W : World), (Instr.slice 23 (.slice A n c) none (some (.int .i64 (c : Int))) none).run Try.prog W = .ok (.slice A c c) W := fun W => by
    rw [run_slice_h (P := Try.prog) (w := W) 23 A n c under22 .i64 (c : Int) (by omega) (by omega), elem22, size5]
    simp only [Result.andThen, sliced]
    cases A <;> simp [Addr.add]
  refine ⟨h1, fun W => ?_⟩
  rw [run_sliceAt_slice (P := Try.prog) (w := W) 23 _ _ _ _ under22]; exact h1 W

/-- Two rows of one's own, in blocks unlike, and the row of both. -/
structure Duo2 (w : World) (g : Nat) (A1 : Option Addr) (n1 c1 : Nat) (L1 : List Nat) (A2 : Option Addr) (n2 c2 : Nat) (L2 : List Nat) (base : Nat) : Prop where
  row : w.heap[g]? = some (.cells #[.slice A1 n1 c1, .slice A2 n2 c2] 23 (0, 0))
  own1 : Utf.Own .u8 256 5 w base A1 n1 c1 L1
  own2 : Utf.Own .u8 256 5 w base A2 n2 c2 L2
  ne : ∀ b b' o, A1 = some ⟨b, 0, none⟩ → A2 = some ⟨b', o, none⟩ → b' ≠ b
theorem Duo2.call {w w' : World} {g : Nat} {A1 : Option Addr} {n1 c1 : Nat} {L1 : List Nat} {A2 : Option Addr} {n2 c2 : Nat} {L2 : List Nat} {base : Nat} (h : Duo2 w g A1 n1 c1 L1 A2 n2 c2 L2 base) (hb : Below w.heap.size w w') : Duo2 w' g A1 n1 c1 L1 A2 n2 c2 L2 base :=
  ⟨(hb.block g (Array.getElem?_eq_some_iff.1 h.row).1).trans h.row, h.own1.below hb, h.own2.below hb, h.ne⟩
theorem Duo2.cells {w : World} {g : Nat} {A1 : Option Addr} {n1 c1 : Nat} {L1 : List Nat} {A2 : Option Addr} {n2 c2 : Nat} {L2 : List Nat} {base : Nat} (h : Duo2 w g A1 n1 c1 L1 A2 n2 c2 L2 base) : w.cell? ⟨g, 0, none⟩ = some (.slice A1 n1 c1) ∧ w.cell? ⟨g, 1, none⟩ = some (.slice A2 n2 c2) := ⟨cell_of_row w g 0 _ _ _ h.row, cell_of_row w g 1 _ _ _ h.row⟩
theorem Duo2.held {w w' : World} {g : Nat} {A1 : Option Addr} {n1 c1 : Nat} {L1 : List Nat} {A2 : Option Addr} {n2 c2 : Nat} {L2 : List Nat} {base : Nat} (h : Duo2 w g A1 n1 c1 L1 A2 n2 c2 L2 base) (hb : Below w.heap.size w w') : w'.cell? ⟨g, 0, none⟩ = some (.slice A1 n1 c1) ∧ w'.cell? ⟨g, 1, none⟩ = some (.slice A2 n2 c2) ∧ Below w.heap.size w w' := ⟨(h.call hb).cells.1, (h.call hb).cells.2, hb⟩
theorem Duo2.meet12 {w : World} {g : Nat} {A1 : Option Addr} {n1 c1 : Nat} {L1 : List Nat} {A2 : Option Addr} {n2 c2 : Nat} {L2 : List Nat} {base : Nat} (h : Duo2 w g A1 n1 c1 L1 A2 n2 c2 L2 base) : Calls Try.prog 21 #[.slice A1 c1 c1, .slice A2 n2 c2] w (Val.GivesB false w) := meet_any base n1 c1 A1 L1 _ n2 c2 A2 L2 w h.own1 h.own2.rd h.ne
theorem Duo2.meet21 {w : World} {g : Nat} {A1 : Option Addr} {n1 c1 : Nat} {L1 : List Nat} {A2 : Option Addr} {n2 c2 : Nat} {L2 : List Nat} {base : Nat} (h : Duo2 w g A1 n1 c1 L1 A2 n2 c2 L2 base) : Calls Try.prog 21 #[.slice A2 c2 c2, .slice A1 n1 c1] w (Val.GivesB false w) := meet_any base n2 c2 A2 L2 _ n1 c1 A1 L1 w h.own2 h.own1.rd fun b b' o h2 h1 => by
  rcases h.own1.2.1.2 with ⟨e, _⟩ | ⟨g1, cap, cur, e, _⟩
  · injection e with e1; rw [e1] at h1; cases h1
  · injection e with e1
    rw [e1] at h1
    injection h1 with h1
    injection h1 with h1 h1o
    subst h1
    have := h.ne g1 b 0 e1 h2
    omega

set_option maxHeartbeats 2000000 in
theorem apart_any (w : World) (g : Nat) (A1 : Option Addr) (n1 c1 : Nat) (L1 : List Nat) (A2 : Option Addr) (n2 c2 : Nat) (L2 : List Nat) (base : Nat) (h : Duo2 w g A1 n1 c1 L1 A2 n2 c2 L2 base) : Calls Try.prog 15 #[.slice (some ⟨g, 0, none⟩) 2 2] w (Val.GivesB true w) := by
  obtain ⟨s1, s2⟩ := cut_cap A1 n1 c1
  obtain ⟨s3, s4⟩ := cut_cap A2 n2 c2
  go_enter Try.func15, Try.ntmps15
  go_wp2
  go_loopw [3] (fun i wx => ∃ j : Nat, j ≤ 2 ∧ i = .int .i64 (j : Nat) ∧ Below w.heap.size w wx) (fun i _ => 2 - (intOf i).toNat)
  case atStart => exact ⟨0, by omega, rfl, Below.refl _ _⟩
  case round =>
    obtain ⟨j, hj, rfl, hb⟩ := hrel
    rename World => wa
    have hD := h.call hb
    have HB := Lib.hid hb
    have HD := Lib.hid hD
    clear hb hD
    by_cases hlt : j < 2
    · have hj2 : j = 0 ∨ j = 1 := by omega
      clear hj hlt
      rcases hj2 with rfl | rfl
      · simp only [Int.cast_ofNat_Int]
        go_wp2
        go_loopw [4] (fun i wx => ∃ k : Nat, k ≤ 2 ∧ i = .int .i64 (k : Nat) ∧ Below wa.heap.size wa wx) (fun i _ => 2 - (intOf i).toNat)
        case atStart => exact ⟨0, by omega, rfl, Below.refl _ _⟩
        case round =>
          obtain ⟨k, hk, rfl, hb2⟩ := hrel
          have hD := HD.out.call hb2
          obtain ⟨z0, z1⟩ := hD.cells
          have HD2 := Lib.hid hD
          have HB2 := Lib.hid hb2
          have hH0 : Below wr.heap.size wr wr.drew := (Below.refl _ _).drew
          have hc0 := hH0
          clear hb2 hD
          by_cases hlt : k < 2
          · have hk2 : k = 0 ∨ k = 1 := by omega
            clear hk hlt
            rcases hk2 with rfl | rfl
            · simp only [Int.cast_ofNat_Int]
              go_upto_region 7 with fail
              go_quiet (fail)
              go_wp2
              go_roundw
              case rel => exact ⟨1, by omega, by go_num, below_drewN HB2.out _⟩
              case measure => (simp [intOf])
            · simp only [Int.cast_ofNat_Int]
              go_upto_region 7 with fail
              go_region_held3 (fun wx => wx.cell? ⟨g, 0, none⟩ = some (.slice A1 n1 c1) ∧ wx.cell? ⟨g, 1, none⟩ = some (.slice A2 n2 c2) ∧ Below wr.heap.size wr wx) (with_reducible first | assumption | exact Duo2.held HD2.out hH0 | exact Duo2.held HD2.out hc1 | fail)
                (first
                | (go_at_call 21; (with_reducible refine (Duo2.meet12 (Duo2.call HD2.out hc0)).mono ?_); rintro e w8 ⟨rfl, hb8⟩; have hc1 := below_next hc0 hb8)
                | fail)
              all_goals
                go_wp2
                go_roundw
                case rel => exact ⟨2, by omega, by go_num, below_next HB2.out hc1⟩
                case measure => (simp [intOf])
          · obtain rfl : k = 2 := by omega
            simp only [Int.cast_ofNat_Int]
            go_wp2
            go_roundw
            case rel => exact ⟨1, by omega, by go_num, below_next HB.out HB2.out⟩
            case measure => (simp [intOf])
      · simp only [Int.cast_ofNat_Int]
        go_wp2
        go_loopw [4] (fun i wx => ∃ k : Nat, k ≤ 2 ∧ i = .int .i64 (k : Nat) ∧ Below wa.heap.size wa wx) (fun i _ => 2 - (intOf i).toNat)
        case atStart => exact ⟨0, by omega, rfl, Below.refl _ _⟩
        case round =>
          obtain ⟨k, hk, rfl, hb2⟩ := hrel
          have hD := HD.out.call hb2
          obtain ⟨z0, z1⟩ := hD.cells
          have HD2 := Lib.hid hD
          have HB2 := Lib.hid hb2
          have hH0 : Below wr.heap.size wr wr.drew := (Below.refl _ _).drew
          have hc0 := hH0
          clear hb2 hD
          by_cases hlt : k < 2
          · have hk2 : k = 0 ∨ k = 1 := by omega
            clear hk hlt
            rcases hk2 with rfl | rfl
            · simp only [Int.cast_ofNat_Int]
              go_upto_region 7 with fail
              go_region_held3 (fun wx => wx.cell? ⟨g, 0, none⟩ = some (.slice A1 n1 c1) ∧ wx.cell? ⟨g, 1, none⟩ = some (.slice A2 n2 c2) ∧ Below wr.heap.size wr wx) (with_reducible first | assumption | exact Duo2.held HD2.out hH0 | exact Duo2.held HD2.out hc1 | fail)
                (first
                | (go_at_call 21; (with_reducible refine (Duo2.meet21 (Duo2.call HD2.out hc0)).mono ?_); rintro e w8 ⟨rfl, hb8⟩; have hc1 := below_next hc0 hb8)
                | fail)
              all_goals
                go_wp2
                go_roundw
                case rel => exact ⟨1, by omega, by go_num, below_next HB2.out hc1⟩
                case measure => (simp [intOf])
            · simp only [Int.cast_ofNat_Int]
              go_upto_region 7 with fail
              go_quiet (fail)
              go_wp2
              go_roundw
              case rel => exact ⟨2, by omega, by go_num, below_drewN HB2.out _⟩
              case measure => (simp [intOf])
          · obtain rfl : k = 2 := by omega
            simp only [Int.cast_ofNat_Int]
            go_wp2
            go_roundw
            case rel => exact ⟨2, by omega, by go_num, below_next HB.out HB2.out⟩
            case measure => (simp [intOf])
    · obtain rfl : j = 2 := by omega
      simp only [Int.cast_ofNat_Int]
      go_wp2
      go_ret
      exact ⟨rfl, HB.out⟩
end Go.Proofs.Ytemeigdielefiaa.Apt
