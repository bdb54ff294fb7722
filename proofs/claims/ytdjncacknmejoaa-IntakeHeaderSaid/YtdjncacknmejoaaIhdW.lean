/-
  The statement IntakeHeader, walked: it answers true. Memory that was there stays. No condition.
-/
import Derived.Test.YtdjncacknmejoaaIwo
namespace Go.Proofs.Ytdjncacknmejoaa.intakeHeader
set_option maxRecDepth 100000
open Go.RowKit Go.Proofs.Ytdjncacknmejoaa.Utf Go.Proofs.Ytdjncacknmejoaa.Enc Go.Proofs.Ytdjncacknmejoaa.Fr Go.Proofs.Ytdjncacknmejoaa.It

/-- Eight bytes in a block, as the header's were laid. -/
structure Sb (w : World) (g : Nat) (T : List Nat) : Prop where
  row : w.heap[g]? = some (.cells (vs .u8 T).toArray 5 (8, 9))
  len : T.length = 8
  lim : ∀ x ∈ T, x < 256
section
variable {w w' : World} {g : Nat} {T : List Nat}
theorem Sb.lt (b : Sb w g T) : g < w.heap.size := (Array.getElem?_eq_some_iff.1 b.row).1
theorem Sb.off {X : Nat → Prop} (b : Sb w g T) (ho : Off X w w') (hx : ¬ X g) : Sb w' g T := ⟨(ho.block g b.lt hx).trans b.row, b.len, b.lim⟩
theorem Sb.call (b : Sb w g T) (hb : Below w.heap.size w w') : Sb w' g T := ⟨(hb.block g b.lt).trans b.row, b.len, b.lim⟩
theorem Sb.cell {j y : Nat} (b : Sb w g T) (hj : T[j]? = some y) : w.cell? ⟨g, j, none⟩ = some (.int .u8 (y : Int)) := by
  rw [cell_of_row w g j _ _ _ b.row]
  simp [vs, hj]
theorem Sb.frz (b : Sb w g T) {j : Nat} (hj : j < 8) : w.frozen? ⟨g, j, none⟩ = false := by
  have := b.row
  simp [World.frozen?, this]
  omega
theorem Sb.rd (b : Sb w g T) : Rd .u8 256 w w.heap.size (some ⟨g, 0, none⟩) 8 T :=
  ⟨b.len, b.lim, fun _ => ⟨g, 0, rfl, b.lt, fun k hk => by rw [Nat.zero_add]; exact b.cell (List.getElem?_eq_getElem hk)⟩⟩
theorem Sb.set {j y : Nat} (b : Sb w g T) (hy : y < 256) : Sb (w.setCell ⟨g, j, none⟩ (.int .u8 (y : Int))) g (T.set j y) := by
  refine ⟨?_, by rw [List.length_set]; exact b.len, fun x hx => ?_⟩
  · have := b.row
    simp [World.setCell, Array.getElem?_modify, this]
    simp [vs, List.map_set]
  · rcases List.mem_or_eq_of_mem_set hx with hx | rfl
    · exact b.lim x hx
    · exact hy
end
/-- The intake when so many of the eight bytes came. -/
def stH (T : List Nat) (j : Nat) : St := if j < 8 then ⟨512, T.take j, false, false⟩ else ⟨512, [], false, true⟩
theorem put_T {T : List Nat} {j : Nat} (hT : T.length = 8) (hj : j < 8) : put (stH T j) ((T.drop j).take 1) = ⟨512, T.take (j + 1), false, false⟩ ∧ room (stH T j) = 520 - j := by
  have h1 : stH T j = ⟨512, T.take j, false, false⟩ := if_pos hj
  have h2 : room (stH T j) = 520 - j := by
    rw [h1]
    unfold room
    simp only [Bool.false_eq_true, if_false, List.length_take, hT]
    omega
  refine ⟨?_, h2⟩
  unfold put
  rw [h2, h1, List.take_take, Nat.min_eq_right (by omega)]
  have : T.take j ++ (T.drop j).take 1 = T.take (j + 1) := by rw [List.take_add]
  rw [this]
theorem kA : ∀ j : Fin 8, kind ⟨512, hdr.take (j.val + 1), false, false⟩ = if j.val = 7 then 1 else 0 := by decide
theorem kind_same {T : List Nat} {j : Nat} (hj : j < 8) (hT : T.take (j + 1) = hdr.take (j + 1)) : kind ⟨512, T.take (j + 1), false, false⟩ = if j = 7 then 1 else 0 := by
  rw [hT]
  exact kA ⟨j, hj⟩
theorem next_same {T : List Nat} {j : Nat} (hj : j < 8) (hT : T.take (j + 1) = hdr.take (j + 1)) (hl : T.length = 8) : next ⟨512, T.take (j + 1), false, false⟩ = stH T (j + 1) := by
  have hk := kind_same hj hT
  unfold stH
  by_cases h7 : j = 7
  · rw [if_pos h7] at hk
    rw [next_1 hk, if_neg (by omega)]
    have : (T.take (j + 1)).drop 8 = [] := List.drop_of_length_le (by rw [List.length_take]; omega)
    simp only [this]
  · rw [if_neg h7] at hk
    rw [next_none hk, if_pos (by omega)]
theorem take_set {k x j : Nat} (hj : j < k) : (hdr.set k x).take (j + 1) = hdr.take (j + 1) := by rw [List.take_set_of_le (by omega)]
theorem kind_diff {k x : Nat} (hk : k < 8) (hx : hdr[k]? ≠ some x) : kind ⟨512, (hdr.set k x).take (k + 1), false, false⟩ = 3 := by
  have hl : ((hdr.set k x).take (k + 1)).length = k + 1 := by rw [List.length_take, List.length_set]; show min (k + 1) 8 = k + 1; omega
  unfold kind
  simp only [Bool.false_eq_true, if_false, hl]
  rw [if_neg]
  intro e
  apply hx
  have := congrArg (fun l => l[k]?) e
  simp only [List.getElem?_take] at this
  rw [if_pos (by omega), if_pos (by omega), if_pos (by omega), List.getElem?_set_self (by show k < 8; exact hk)] at this
  exact this.symm
theorem hdr_at {k : Nat} (hk : k < 8) : ∃ y, hdr[k]? = some y ∧ y < 256 := ⟨hdr[k]'hk, List.getElem?_eq_getElem hk, hdr_lt _ (List.getElem_mem _)⟩
set_option maxHeartbeats 4000000 in
theorem walk_eq (A : Option Addr) (n c at_ k y : Nat) (w : World) (ha : at_ < 256) (hk : k < 8) (hat : at_ % 8 = k) (hy : hdr[k]? = some y) (hy2 : y < 256) :
    Calls Try.prog 7 #[.slice A n c, .int .u8 (at_ : Int), .int .u8 (y : Int)] w fun e w' => e = .returned (.bool true) ∧ Below w.heap.size w w' := by
  have K1 : (at_ : Int).tmod 8 = (k : Int) := by rw [← hat]; exact Int.ofNat_tmod at_ 8
  have K2 : (at_ : Int) % 8 = (k : Int) := by omega
  have k0 : (0 : Int) ≤ (k : Int) := by omega
  have k8 : (k : Int) < 8 := by omega
  clear hat
  go_enter Try.func7, Try.ntmps7
  go_wp2_with fail
  (with_reducible refine (It.start_any _).mono ?_)
  rintro e w1 ⟨gs, rfl, hs1, hgs, hb1⟩
  have hsb : Sb w1 gs hdr := ⟨hs1, rfl, hdr_lt⟩
  have c1 := hsb.cell hy
  have cf := hsb.frz hk
  have hset : hdr.set k y = hdr := by
    apply List.ext_getElem?
    intro i
    by_cases hi : k = i
    · subst hi; rw [List.getElem?_set_self (by show k < 8; exact hk), hy]
    · rw [List.getElem?_set_ne hi]
  have hsb2 : Sb (w1.setCell ⟨gs, k, none⟩ (.int .u8 (y : Int))) gs hdr := hset ▸ hsb.set hy2
  have hb2 : Below w.heap.size w (w1.setCell ⟨gs, k, none⟩ (.int .u8 (y : Int))) := hb1.setCell hgs _
  go_wp2_with fail
  generalize w1.setCell ⟨gs, k, none⟩ (.int .u8 (y : Int)) = w2 at *
  clear c1 cf hsb hs1 hb1 hset
  (with_reducible refine (new_512 _).mono ?_)
  rintro e w3 ⟨g, h, rfl, hi3, hg, hh, hb3⟩
  have hsb3 := hsb2.call hb3
  have hgne : gs ≠ g ∧ gs ≠ h := by have := hsb2.lt; omega
  have hb3' := bn hb2 hb3
  have HG : Hid (w.heap.size ≤ g ∧ w.heap.size ≤ h) := Lib.hid (by have := hb2.size; omega)
  clear hb3 hb2 hsb2
  have q8 : ∀ j : Nat, j < 8 → ∃ A1 c1, 1 ≤ c1 ∧ (∀ W : World, (Instr.slice 24 (.slice (some ⟨gs, 0, none⟩) 8 8) (some (.int .i64 (j : Int))) (some (.int .i64 ((j : Int) + 1))) none).run Try.prog W = .ok (.slice A1 1 c1) W) ∧ (∀ W : World, (Instr.sliceAt 24 (.slice (some ⟨gs, 0, none⟩) 8 8) (some (.int .i64 (j : Int))) (some (.int .i64 ((j : Int) + 1))) none).run Try.prog W = .ok (.slice A1 1 c1) W) ∧ ∀ w B l, Rd .u8 256 w B (some ⟨gs, 0, none⟩) 8 l → Rd .u8 256 w B A1 1 ((l.drop j).take 1) := fun j hj => by
    obtain ⟨A1, c1, h1, h2, h3, h4⟩ := cut_mix .i64 .i64 (some ⟨gs, 0, none⟩) 8 8 j (j + 1) (by omega) (by omega) (Nat.le_refl _)
    rw [show j + 1 - j = 1 by omega] at h1 h2 h3 h4
    exact ⟨A1, c1, h1, fun W => h2 W, fun W => h3 W, h4⟩
  have HQ := Lib.hid q8
  have HB3 := Lib.hid hb3'
  have HS3 := Lib.hid hsb3
  have HI3 := Lib.hid hi3
  clear q8 hb3' hsb3 hi3
  go_wp2_with fail
  go_loopw [12] (fun i wr => ∃ j : Nat, j ≤ 8 ∧ i = .int .i64 (j : Int) ∧ In wr g h (stH hdr j) ∧ Sb wr gs hdr ∧ Below w.heap.size w wr) (fun i _ => 8 - (intOf i).toNat)
  case atStart => exact ⟨0, by omega, rfl, HI3.out, HS3.out, HB3.out⟩
  case round =>
    obtain ⟨j, hj, rfl, hi, hs, hb⟩ := hrel
    have HI := Lib.hid hi
    have HS := Lib.hid hs
    have HB := Lib.hid hb
    clear hi hs hb
    by_cases hlt : j < 8
    · have d1 : decide ((j : Int) < 8) = true := by simp; omega
      obtain ⟨A1, c1, hc1, s1, s2, hrd⟩ := HQ.out j hlt
      have hr1 := hrd _ _ _ HS.out.rd
      obtain ⟨hp, hrm⟩ := put_T (T := hdr) rfl hlt
      have hu : IntKind.i64.wrap ((j : Int) + 1) = (j : Int) + 1 := by rw [IntKind.wrap_i64]; omega
      go_wp2_with fail
      (with_reducible refine (put_s HI.out hr1 hc1 (by omega) _ 1 hp (by rw [hrm]; omega)).mono ?_)
      rintro e w4 ⟨rfl, hi4, ho4⟩
      have hs4 := HS.out.off ho4 (fun e => e.elim hgne.1 hgne.2)
      have hb4 := offB HB.out HG.out.1 HG.out.2 ho4
      clear hr1 hrd s1 s2
      go_wp2_with fail
      by_cases h7 : j = 7
      · have hk1 := kind_same hlt (T := hdr) rfl
        rw [if_pos h7] at hk1
        have hk1' : ((kind ⟨512, hdr.take (j + 1), false, false⟩ : Nat) : Int) = 1 := by rw [hk1]; rfl
        (with_reducible refine (next_at hi4 1 0 0 [] (stH hdr (j + 1)) hk1' (chN0 (by omega)) (bdN0 (by omega)) rfl (next_same hlt rfl rfl)).mono ?_)
        rintro e w5 ⟨A5, c5, rfl, _, hi5, ho5⟩
        have hs5 := (hs4.off ho5 (fun e => e.elim hgne.1 hgne.2)).call (ba (Below.refl _ _) (.cells #[.int .u16 0, .slice A5 0 c5] 39))
        have hi5 := hi5.call (ba (Below.refl _ _) (.cells #[.int .u16 0, .slice A5 0 c5] 39))
        have hb5 := ba (offB hb4 HG.out.1 HG.out.2 ho5) (.cells #[.int .u16 0, .slice A5 0 c5] 39)
        have g7 : decide ((j : Int) < 7) = false := by simp; omega
        have g8 : ((j : Int) == 7) = true := by simp; omega
        have HIN := Lib.hid hi5
        have HSN := Lib.hid hs5
        have HBN := Lib.hid hb5
        have HJN := Lib.hid (show j + 1 ≤ 8 by omega)
        clear h7 hi5 hs5 hb5 hi4 hs4 hb4 ho4 ho5 hk1 hk1'
        go_wp2
        go_roundw
        case rel => exact ⟨j + 1, HJN.out, by go_num, HIN.out, HSN.out, HBN.out⟩
        case measure => simp [intOf]; omega
      · have hk0 := kind_same hlt (T := hdr) rfl
        rw [if_neg h7] at hk0
        have hk0' : ((kind ⟨512, hdr.take (j + 1), false, false⟩ : Nat) : Int) = 0 := by rw [hk0]; rfl
        (with_reducible refine (next_at hi4 0 0 0 [] (stH hdr (j + 1)) hk0' (chN0 (by omega)) (bdN0 (by omega)) rfl (next_same hlt rfl rfl)).mono ?_)
        rintro e w5 ⟨A5, c5, rfl, _, hi5, ho5⟩
        have hs5 := (hs4.off ho5 (fun e => e.elim hgne.1 hgne.2)).call (ba (Below.refl _ _) (.cells #[.int .u16 0, .slice A5 0 c5] 39))
        have hi5 := hi5.call (ba (Below.refl _ _) (.cells #[.int .u16 0, .slice A5 0 c5] 39))
        have hb5 := ba (offB hb4 HG.out.1 HG.out.2 ho5) (.cells #[.int .u16 0, .slice A5 0 c5] 39)
        have g7 : decide ((j : Int) < 7) = true := by simp; omega
        have g8 : ((j : Int) == 7) = false := by simp; omega
        have HIN := Lib.hid hi5
        have HSN := Lib.hid hs5
        have HBN := Lib.hid hb5
        have HJN := Lib.hid (show j + 1 ≤ 8 by omega)
        clear h7 hi5 hs5 hb5 hi4 hs4 hb4 ho4 ho5 hk0 hk0'
        go_wp2
        go_roundw
        case rel => exact ⟨j + 1, HJN.out, by go_num, HIN.out, HSN.out, HBN.out⟩
        case measure => simp [intOf]; omega
    · obtain rfl : j = 8 := by omega
      have hie : In wr g h ⟨512, [], false, true⟩ := HI.out
      go_wp2_with fail
      (with_reducible refine (It.start_any _).mono ?_)
      rintro e w6 ⟨gt, rfl, hs6, _, hb6⟩
      have c0 : w6.cell? ⟨gt, 0, none⟩ = some (.int .u8 65) := hs6.cell (j := 0) (y := 65) rfl
      have c5 : w6.cell? ⟨gt, 5, none⟩ = some (.int .u8 1) := hs6.cell (j := 5) (y := 1) rfl
      have hi6 := hie.call hb6
      have HB6 := Lib.hid (bn HB.out hb6)
      clear hie hs6 hb6
      go_wp2_with (first
        | (go_at_call 20; (with_reducible refine (held_s hi6 0 rfl).mono ?_); rintro e w7 ⟨rfl, rfl⟩)
        | (go_at_call 10; (with_reducible refine (works12_any _).mono ?_); rintro e w8 ⟨rfl, hb8⟩)
        | fail)
      go_ret
      exact ⟨rfl, bn HB6.out hb8⟩
set_option maxHeartbeats 4000000 in
theorem walk_ne (A : Option Addr) (n c at_ k y x : Nat) (b : List Nat) (w : World) (hrb : Rd .u8 256 w w.heap.size A n b) (hnc : n ≤ c) (hn : n ≤ 9223372036854775807) (hx : x < 256) (hxy : x ≠ y) (ha : at_ < 256) (hk : k < 8) (hat : at_ % 8 = k) (hy : hdr[k]? = some y) (_ : y < 256) :
    Calls Try.prog 7 #[.slice A n c, .int .u8 (at_ : Int), .int .u8 (x : Int)] w fun e w' => e = .returned (.bool true) ∧ Below w.heap.size w w' := by
  have K1 : (at_ : Int).tmod 8 = (k : Int) := by rw [← hat]; exact Int.ofNat_tmod at_ 8
  have K2 : (at_ : Int) % 8 = (k : Int) := by omega
  have k0 : (0 : Int) ≤ (k : Int) := by omega
  have k8 : (k : Int) < 8 := by omega
  clear hat
  have HRB := Lib.hid hrb
  clear hrb
  go_enter Try.func7, Try.ntmps7
  go_wp2_with fail
  (with_reducible refine (It.start_any _).mono ?_)
  rintro e w1 ⟨gs, rfl, hs1, hgs, hb1⟩
  have hsb : Sb w1 gs hdr := ⟨hs1, rfl, hdr_lt⟩
  have c1 := hsb.cell hy
  have cf := hsb.frz hk
  have hsb2 : Sb (w1.setCell ⟨gs, k, none⟩ (.int .u8 (x : Int))) gs (hdr.set k x) := hsb.set hx
  have hb2 : Below w.heap.size w (w1.setCell ⟨gs, k, none⟩ (.int .u8 (x : Int))) := hb1.setCell hgs _
  go_wp2_with fail
  generalize w1.setCell ⟨gs, k, none⟩ (.int .u8 (x : Int)) = w2 at *
  clear c1 cf hsb hs1 hb1
  (with_reducible refine (new_512 _).mono ?_)
  rintro e w3 ⟨g, h, rfl, hi3, hg, hh, hb3⟩
  have hsb3 := hsb2.call hb3
  have hgne : gs ≠ g ∧ gs ≠ h := by have := hsb2.lt; omega
  have hb3' := bn hb2 hb3
  have HG : Hid (w.heap.size ≤ g ∧ w.heap.size ≤ h) := Lib.hid (by have := hb2.size; omega)
  clear hb3 hb2 hsb2
  have q8 : ∀ j : Nat, j < 8 → ∃ A1 c1, 1 ≤ c1 ∧ (∀ W : World, (Instr.slice 24 (.slice (some ⟨gs, 0, none⟩) 8 8) (some (.int .i64 (j : Int))) (some (.int .i64 ((j : Int) + 1))) none).run Try.prog W = .ok (.slice A1 1 c1) W) ∧ (∀ W : World, (Instr.sliceAt 24 (.slice (some ⟨gs, 0, none⟩) 8 8) (some (.int .i64 (j : Int))) (some (.int .i64 ((j : Int) + 1))) none).run Try.prog W = .ok (.slice A1 1 c1) W) ∧ ∀ w B l, Rd .u8 256 w B (some ⟨gs, 0, none⟩) 8 l → Rd .u8 256 w B A1 1 ((l.drop j).take 1) := fun j hj => by
    obtain ⟨A1, c1, h1, h2, h3, h4⟩ := cut_mix .i64 .i64 (some ⟨gs, 0, none⟩) 8 8 j (j + 1) (by omega) (by omega) (Nat.le_refl _)
    rw [show j + 1 - j = 1 by omega] at h1 h2 h3 h4
    exact ⟨A1, c1, h1, fun W => h2 W, fun W => h3 W, h4⟩
  have HQ := Lib.hid q8
  have HB3 := Lib.hid hb3'
  have HS3 := Lib.hid hsb3
  have HI3 := Lib.hid hi3
  clear q8 hb3' hsb3 hi3
  go_wp2_with fail
  go_loopw [12] (fun i wr => ∃ j : Nat, j ≤ k ∧ i = .int .i64 (j : Int) ∧ In wr g h (stH (hdr.set k x) j) ∧ Sb wr gs (hdr.set k x) ∧ Below w.heap.size w wr) (fun i _ => 8 - (intOf i).toNat)
  case atStart => exact ⟨0, by omega, rfl, HI3.out, HS3.out, HB3.out⟩
  case round =>
    obtain ⟨j, hj, rfl, hi, hs, hb⟩ := hrel
    have HI := Lib.hid hi
    have HS := Lib.hid hs
    have HB := Lib.hid hb
    clear hi hs hb
    by_cases hlt : j < 8
    · have d1 : decide ((j : Int) < 8) = true := by simp; omega
      obtain ⟨A1, c1, hc1, s1, s2, hrd⟩ := HQ.out j hlt
      have hr1 := hrd _ _ _ HS.out.rd
      obtain ⟨hp, hrm⟩ := put_T (T := hdr.set k x) (by simp [hdr]) hlt
      have hu : IntKind.i64.wrap ((j : Int) + 1) = (j : Int) + 1 := by rw [IntKind.wrap_i64]; omega
      go_wp2_with fail
      (with_reducible refine (put_s HI.out hr1 hc1 (by omega) _ 1 hp (by rw [hrm]; omega)).mono ?_)
      rintro e w4 ⟨rfl, hi4, ho4⟩
      have hs4 := HS.out.off ho4 (fun e => e.elim hgne.1 hgne.2)
      have hb4 := offB HB.out HG.out.1 HG.out.2 ho4
      clear hr1 hrd s1 s2
      go_wp2_with fail
      by_cases hjk : j < k
      · have hk0 := kind_same hlt (T := hdr.set k x) (take_set hjk)
        rw [if_neg (show ¬ j = 7 by omega)] at hk0
        have hk0' : ((kind ⟨512, (hdr.set k x).take (j + 1), false, false⟩ : Nat) : Int) = 0 := by rw [hk0]; rfl
        (with_reducible refine (next_at hi4 0 0 0 [] (stH (hdr.set k x) (j + 1)) hk0' (chN0 (by omega)) (bdN0 (by omega)) rfl (next_same hlt (take_set hjk) (by simp [hdr]))).mono ?_)
        rintro e w5 ⟨A5, c5, rfl, _, hi5, ho5⟩
        have hs5 := (hs4.off ho5 (fun e => e.elim hgne.1 hgne.2)).call (ba (Below.refl _ _) (.cells #[.int .u16 0, .slice A5 0 c5] 39))
        have hi5 := hi5.call (ba (Below.refl _ _) (.cells #[.int .u16 0, .slice A5 0 c5] 39))
        have hb5 := ba (offB hb4 HG.out.1 HG.out.2 ho5) (.cells #[.int .u16 0, .slice A5 0 c5] 39)
        have g7 : decide ((j : Int) < 7) = true := by simp; omega
        have g8 : ((j : Int) == 7) = false := by simp; omega
        have g9 : decide ((k : Int) ≤ (j : Int)) = false := by simp; omega
        have g10 : ((x : Int) != (y : Int)) = true := by simp; omega
        have HIN := Lib.hid hi5
        have HSN := Lib.hid hs5
        have HBN := Lib.hid hb5
        have HJN := Lib.hid (show j + 1 ≤ k by omega)
        clear hi5 hs5 hb5 hi4 hs4 hb4 ho4 ho5 hk0 hk0'
        go_wp2
        go_roundw
        case rel => exact ⟨j + 1, HJN.out, by go_num, HIN.out, HSN.out, HBN.out⟩
        case measure => simp [intOf]; omega
      · obtain rfl : j = k := by omega
        have hk3 : ((kind ⟨512, (hdr.set j x).take (j + 1), false, false⟩ : Nat) : Int) = 3 := by rw [kind_diff hk (by rw [hy]; intro e; injection e with e; exact hxy e.symm)]; rfl
        (with_reducible refine (next_at hi4 3 0 0 [] ⟨512, [], true, false⟩ hk3 (chN0 (by omega)) (bdN0 (by omega)) rfl (next_bad (by omega))).mono ?_)
        rintro e w5 ⟨A5, c5, rfl, _, hi5, ho5⟩
        have hi5 := hi5.call (ba (Below.refl _ _) (.cells #[.int .u16 0, .slice A5 0 c5] 39))
        have hb5 := ba (offB hb4 HG.out.1 HG.out.2 ho5) (.cells #[.int .u16 0, .slice A5 0 c5] 39)
        have hr5 := HRB.out.call hb5
        have g9 : decide ((j : Int) ≤ (j : Int)) = true := by simp
        have g10 : ((x : Int) != (y : Int)) = true := by simp; omega
        have HB5 := Lib.hid hb5
        clear hi4 hs4 hb4 ho4 ho5 hk3 hb5 hjk
        go_wp2_with (first
          | (go_at_call 14; (with_reducible refine (put_s hi5 hr5 hnc hn ⟨512, [], true, false⟩ 0 rfl (by simp [room])).mono ?_); rintro e w6 ⟨rfl, hi6, ho6⟩; have HB6 := Lib.hid (offB HB5.out HG.out.1 HG.out.2 ho6))
          | (go_at_call 10; (with_reducible refine (works12_any _).mono ?_); rintro e w8 ⟨rfl, hb8⟩)
          | fail)
        go_ret
        exact ⟨rfl, bn HB6.out hb8⟩
    · omega
theorem walk (A : Option Addr) (n c : Nat) (b : List Nat) (at_ x : Nat) (w : World) (hr : Rd .u8 256 w w.heap.size A n b) (hc : n ≤ c) (hn : n ≤ 9223372036854775807) (ha : at_ < 256) (hx : x < 256) :
    Calls Try.prog 7 #[.slice A n c, .int .u8 (at_ : Int), .int .u8 (x : Int)] w fun e w' => e = .returned (.bool true) ∧ Below w.heap.size w w' := by
  obtain ⟨y, hy, hy2⟩ := hdr_at (k := at_ % 8) (by omega)
  by_cases hxy : x = y
  · subst hxy
    exact walk_eq A n c at_ (at_ % 8) x w ha (by omega) rfl hy hy2
  · exact walk_ne A n c at_ (at_ % 8) y x b w hr hc hn hx hxy ha (by omega) rfl hy hy2
end Go.Proofs.Ytdjncacknmejoaa.intakeHeader
