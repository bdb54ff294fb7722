/-
  The walk of the statement ValueAlike: an array of values that may be may be just if each is of the kind of the first, a map just if its keys are unlike. Conditions: the table utf.shapes lies as the program's text lays it; values of bulk at most 2^20.
-/
import Derived.Test.YtdbcdabijolagaaDoorAlikM
import Derived.Test.YtdbcdabijolagaaDoorLarge
import Derived.Deep.RegionHeld3
import Derived.Deep.QuietTactic
import Derived.BigQuiet
namespace Go.Proofs.YtdbcdabijolagaaDoor.valueAlike
open Go.RowKit Go.Proofs.YtdbcdabijolagaaDoor.Utf Go.Proofs.YtdbcdabijolagaaDoor.Val V

theorem tab_call {w w' : World} (h : Tab w) (hb : Below w.heap.size w w') : Tab w' := h.call hb
theorem held4 {w w' : World} {b p k n b2 p2 k2 n2 : Nat} {t t2 : ByteArray} {ks ks2 : List V} {A A2 : Option Addr} {l c l2 c2 : Nat} (h : El w b p k n t ks A l c) (h2 : El w b2 p2 k2 n2 t2 ks2 A2 l2 c2) (hb : Below w.heap.size w w') :
    w'.cell? ⟨b, p, none⟩ = some (.int .u8 k) ∧ w'.cell? ⟨b, p + 1, none⟩ = some (.int .u64 n) ∧ w'.cell? ⟨b, p + 2, none⟩ = some (.string t) ∧ w'.cell? ⟨b, p + 3, none⟩ = some (.slice A l c) ∧
    w'.cell? ⟨b2, p2, none⟩ = some (.int .u8 k2) ∧ w'.cell? ⟨b2, p2 + 1, none⟩ = some (.int .u64 n2) ∧ w'.cell? ⟨b2, p2 + 2, none⟩ = some (.string t2) ∧ w'.cell? ⟨b2, p2 + 3, none⟩ = some (.slice A2 l2 c2) ∧ Below w.heap.size w w' := by
  obtain ⟨a0, a1, a2, a3⟩ := (h.call hb).cells
  exact ⟨a0, a1, a2, a3, h2.held hb⟩
theorem el_first {w : World} {ks : List V} {b o l c : Nat} (h : Kd w ks (some ⟨b, o, none⟩) l c) (hl : 0 < l) : w.cell? ⟨b, o, none⟩ = some (.int .u8 (kind0 ks : Int)) := by
  obtain ⟨b', o', k, n, t, ks', A', l', c', e, hx, _, _, _, hE⟩ := h.el hl
  simp only [Option.some.injEq, Addr.mk.injEq, and_true] at e
  obtain ⟨rfl, rfl⟩ := e
  have h0 := hE.cells.1
  simp only [Nat.zero_mul, Nat.add_zero] at h0
  cases ks with
  | nil => simp at hx
  | cons x r =>
    simp at hx
    subst hx
    exact h0
theorem len_even (l : Nat) : ((l : Int) % 2 == 0) = decide (l % 2 = 0) := by
  rw [Bool.eq_iff_iff]; simp; omega

section
variable {w : World} {ks : List V} {A : Option Addr} {l c D I : Nat} {r : Bool}
theorem arr_many (hK : Kd w ks A l c) (hN : bulkL ks ≤ 1048576) : Calls Tryd.prog 17 #[.int .u8 24, .slice A l c] w (GivesQ 24 ks w) := vmany_any 24 ks A l c w (by omega) (by omega) hK
theorem map_many (hK : Kd w ks A l c) (hN : bulkL ks ≤ 1048576) : Calls Tryd.prog 17 #[.int .u8 23, .slice A l c] w (GivesQ 23 ks w) := vmany_any 23 ks A l c w (by omega) (by omega) hK
theorem arr_items (h : Tells 24 0 ⟨#[]⟩ ks r D I) (hK : Kd w ks A l c) : Calls Tryd.prog 30 #[.agg #[.int .u8 24, .int .u64 0, .string ⟨#[]⟩, .slice A l c]] w fun e w' => e = .returned (.int .i64 (I : Int)) ∧ Below w.heap.size w w' := h.items hK
theorem arr_right (h : Tells 24 0 ⟨#[]⟩ ks r D I) (hK : Kd w ks A l c) (ht : Tab w) : Calls Tryd.prog 13 #[.agg #[.int .u8 24, .int .u64 0, .string ⟨#[]⟩, .slice A l c]] w (GivesB r w) := h.right hK ht
theorem map_right (h : Tells 23 0 ⟨#[]⟩ ks r D I) (hK : Kd w ks A l c) (ht : Tab w) : Calls Tryd.prog 13 #[.agg #[.int .u8 23, .int .u64 0, .string ⟨#[]⟩, .slice A l c]] w (GivesB r w) := h.right hK ht
end

set_option maxRecDepth 100000 in
set_option maxHeartbeats 4000000 in
theorem walk (ks : List V) (A : Option Addr) (l c : Nat) (w : World) (ht : Tab w) (hN : bulkL ks ≤ 1048576) (hK : Kd w ks A l c) : Calls Tryd.prog 9 #[.slice A l c] w (GivesB true w) := by
  have HN := Lib.hid hN
  have hl1 : l ≤ ks.length := Nat.le_of_eq hK.len
  have hl2 : ks.length ≤ l := Nat.le_of_eq hK.len.symm
  obtain ⟨p, hp⟩ : ∃ p, decide (8192 < bigL ks) = p := ⟨_, rfl⟩
  have HL := large_any ks A l c w (by omega) hK
  rw [hp] at HL
  have hl9 : l ≤ 1048576 := by have := length_bulk ks; omega
  clear hp hN
  go_enter Tryd.func9, Tryd.ntmps9
  go_wp2_with fail
  refine HL.mono ?_
  rintro e w1 ⟨rfl, hb1⟩
  have hT1 := ht.call hb1
  clear HL
  cases p with
  | true =>
    go_wp2_with (go_at_call 11; (with_reducible refine (works_any _ hT1).mono ?_); rintro e w3 ⟨rfl, hb3⟩)
    go_ret
    exact ⟨rfl, below_next hb1 hb3⟩
  | false =>
    by_cases hl60 : 60 < l
    · go_wp2_with (go_at_call 11; (with_reducible refine (works_any _ hT1).mono ?_); rintro e w3 ⟨rfl, hb3⟩)
      go_ret
      exact ⟨rfl, below_next hb1 hb3⟩
    · have e1 := len_even l
      obtain ⟨E, hE⟩ : ∃ E, decide (l % 2 = 0) = E := ⟨_, rfl⟩
      have HE := Lib.hid hE
      rw [hE] at e1
      clear hE
      go_wp2_with fail
      have HK := Lib.hid hK
      clear e1 hK
      go_loopw [3, 4, 5] (fun a u i wr => ∃ j : Nat, j ≤ l ∧ i = .int .i64 j ∧ a = .bool (alk (kind0 ks) (ks.take j)) ∧ u = .bool (E && unl ks j) ∧ Below w.heap.size w wr ∧ fine (ks.take j) = true) (fun _ _ i _ => l - (intOf i).toNat)
      case atStart => exact ⟨0, Nat.zero_le _, rfl, rfl, by rw [unl_zero, Bool.and_true], hb1, rfl⟩
      case round =>
        obtain ⟨j, hj, rfl, rfl, rfl, hb, hf⟩ := hrel
        have HF := Lib.hid hf
        clear hf
        have hT := ht.call hb
        by_cases hlt : j < l
        · obtain ⟨b, o, k', n', t', ks', A', l', c', rfl, hx, hk', hn', hbk, hEl⟩ := (HK.out.call hb).el hlt
          have hd2 := depth_le (.mk k' n' t' ks')
          have hi2 := items_le (.mk k' n' t' ks')
          obtain ⟨r, hr⟩ : ∃ r, okB (.mk k' n' t' ks') = r := ⟨_, rfl⟩
          obtain ⟨D, hD⟩ : ∃ D, depth (.mk k' n' t' ks') = D := ⟨_, rfl⟩
          obtain ⟨I, hI⟩ : ∃ I, items (.mk k' n' t' ks') = I := ⟨_, rfl⟩
          have hb20 : bulk (.mk k' n' t' ks') ≤ 1048576 := Nat.le_trans hbk HN.out
          have HX : Tells k' n' t' ks' r D I := ⟨hr, hD, hI, by omega, hn'⟩
          have HB20 := Lib.hid hb20
          have HFT := Lib.hid (fine_take hx)
          have HAT := Lib.hid (alk_take (k0 := kind0 ks) hx)
          have HVX := Lib.hid hx
          rw [hr, hD] at HFT
          rw [hD, hI] at hd2
          rw [hI] at hi2
          have hD9 : D ≤ 1048576 := by omega
          clear hx hr hD hI hn' hbk hi2 hd2 hb20
          have hcE := hEl.cells
          obtain ⟨h0, h1, h2, h3⟩ := hcE
          have hbl := hEl.lt
          cases r with
          | false =>
            go_wp2_with (first
              | (go_at_call 13; (with_reducible refine (HX.right hEl.kd hT).mono ?_); rintro e w2 ⟨rfl, hb2⟩; have hb := below_next hb hb2; have hT := tab_call hT hb2; have hEl := hEl.call hb2; have hh := hEl.cells; obtain ⟨h0, h1, h2, h3⟩ := hh)
              | (go_at_call 28; (with_reducible refine (HX.depth hEl.kd).mono ?_); rintro e w3 ⟨rfl, hb3⟩; have hb := below_next hb hb3; have hT := tab_call hT hb3)
              | (go_at_call 11; (with_reducible refine (works_any _ hT).mono ?_); rintro e w4 ⟨rfl, hb4⟩; have hb := below_next hb hb4))
            go_ret
            exact ⟨rfl, hb⟩
          | true =>
            by_cases h25 : k' = 25
            · have e25 : ((k' : Int) == 25) = true := by rw [beq_iff_eq]; omega
              clear h25
              go_wp2_with (first
                | (go_at_call 13; (with_reducible refine (HX.right hEl.kd hT).mono ?_); rintro e w2 ⟨rfl, hb2⟩; have hb := below_next hb hb2; have hT := tab_call hT hb2; have hEl := hEl.call hb2; have hh := hEl.cells; obtain ⟨h0, h1, h2, h3⟩ := hh)
                | (go_at_call 28; (with_reducible refine (HX.depth hEl.kd).mono ?_); rintro e w3 ⟨rfl, hb3⟩; have hb := below_next hb hb3; have hT := tab_call hT hb3)
                | (go_at_call 11; (with_reducible refine (works_any _ hT).mono ?_); rintro e w4 ⟨rfl, hb4⟩; have hb := below_next hb hb4))
              go_ret
              exact ⟨rfl, hb⟩
            · have e25 : ((k' : Int) == 25) = false := by rw [beq_eq_false_iff_ne]; omega
              by_cases h16 : D < 16
              · have e16 : decide (16 ≤ (D : Int)) = false := by simp; omega
                have HFJ := Lib.hid (show fine (ks.take (j + 1)) = true by rw [HFT.out, HF.out]; simp [kind, h25, h16])
                clear h25
                go_upto_region 10 with (first
                  | (go_at_call 13; (with_reducible refine (HX.right hEl.kd hT).mono ?_); rintro e w2 ⟨rfl, hb2⟩; have hb := below_next hb hb2; have hT := tab_call hT hb2; have hEl := hEl.call hb2; have hh := hEl.cells; obtain ⟨h0, h1, h2, h3⟩ := hh)
                  | (go_at_call 28; (with_reducible refine (HX.depth hEl.kd).mono ?_); rintro e w3 ⟨rfl, hb3⟩; have hb := below_next hb hb3; have hT := tab_call hT hb3; have hEl := hEl.call hb3; have hh := hEl.cells; obtain ⟨h0, h1, h2, h3⟩ := hh))
                have c00 := el_first (HK.out.call hb) (by omega)
                have hl0 : 0 < l := by omega
                obtain ⟨q, hq⟩ : ∃ q, alk (kind0 ks) (ks.take j) = q := ⟨_, rfl⟩
                obtain ⟨s, hs⟩ : ∃ s, ((k' : Int) == (kind0 ks : Int)) = s := ⟨_, rfl⟩
                have HAJ := Lib.hid (show alk (kind0 ks) (ks.take (j + 1)) = (q && s) by rw [HAT.out, hq, ← hs]; congr 1; rw [Bool.eq_iff_iff, decide_eq_true_eq, beq_iff_eq]; show k' = kind0 ks ↔ _; omega)
                rw [hq]
                clear hq
                go_cut [3] (fun s3 wx => s3 = .bool (q && s) ∧ Below w.heap.size w wx)
                case first =>
                  cases q
                  all_goals
                    go_quiet (fail)
                    go_wp2_with fail
                    go_meet
                    exact ⟨by simp, below_drewN hb _⟩
                case rest =>
                  obtain ⟨rfl, hb⟩ := hcut
                  clear hs c00 h0 h1 h2 h3 hEl hT e25 e16
                  obtain ⟨U, hU⟩ : ∃ U, (E && unl ks j) = U := ⟨_, rfl⟩
                  have HU := Lib.hid hU
                  rw [hU]
                  clear hU
                  obtain ⟨R, hR⟩ : ∃ R, (q && s) = R := ⟨_, rfl⟩
                  rw [hR] at HAJ ⊢
                  clear hR
                  by_cases hpar : j % 2 = 0
                  · have m1 : (j : Int) % 2 = 0 := by omega
                    have m2 : Int.tmod (j : Int) 2 = 0 := by rw [Int.tmod_eq_emod_of_nonneg (by omega)]; omega
                    have HUE := Lib.hid (unl_even HVX.out hpar)
                    have HPAR := Lib.hid hpar
                    clear hpar
                    go_wp2_with fail
                    go_loopw [4, 6] (fun u kk wr => ∃ m : Nat, (m % 2 = 0 ∧ m ≤ j) ∧ kk = .int .i64 m ∧ u = .bool (U && !seen ks j (m / 2) (.mk k' n' t' ks')) ∧ Below w.heap.size w wr) (fun _ kk _ => j - (intOf kk).toNat)
                    case atStart => exact ⟨0, by omega, rfl, by rw [show 0 / 2 = 0 from rfl, seen_zero]; simp, hb⟩
                    case round =>
                      obtain ⟨m, ⟨hm0, hm⟩, rfl, rfl, hb⟩ := hrel
                      have hm2 : 2 * (m / 2) = m := by omega
                      by_cases hmj : m < j
                      · obtain ⟨b', o', k', n', t', ks', A', l', c', he1, hx1, hk1, hn1, hbk1, hE1⟩ := (HK.out.call hb).el hlt
                        obtain ⟨b2, o2, k2, n2, t2, ks2, A2, l2, c2, he2, hx2, hk2, hn2, hbk2, hE2⟩ := (HK.out.call hb).el (i := m) (by omega)
                        simp only [Option.some.injEq, Addr.mk.injEq, and_true] at he1 he2
                        obtain ⟨rfl, rfl⟩ := he1
                        obtain ⟨rfl, rfl⟩ := he2
                        have hxx := hx1.symm.trans HVX.out
                        simp only [Option.some.injEq, V.mk.injEq] at hxx
                        obtain ⟨rfl, rfl, rfl, rfl⟩ := hxx
                        have HST := Lib.hid (seen_step (j := j) (m := m / 2) (x := .mk k' n' t' ks') (by rw [hm2]; exact hx2) (by omega))
                        have hcE := hE1.cells
                        obtain ⟨h0, h1, h2, h3⟩ := hcE
                        have hcF := hE2.cells
                        obtain ⟨i0, i1, i2, i3⟩ := hcF
                        have hbl := hE1.lt
                        have hbN : bulkL ks' ≤ 1073741824 := by have := HB20.out; simp only [bulk] at this; omega
                        have HBN := Lib.hid hbN
                        have hml : m < l := by omega
                        obtain ⟨z, hz⟩ : ∃ z, same (.mk k' n' t' ks') (.mk k2 n2 t2 ks2) = z := ⟨_, rfl⟩
                        rw [hz] at HST
                        have HZ := Lib.hid hz
                        clear hm2 hx1 hx2 hz hbN hk1 hk2 hn1 hn2 hbk1 hbk2
                        have hH0 : Below wr.heap.size wr wr.drew := (Below.refl _ _).drew
                        obtain ⟨y, hy⟩ : ∃ y, (U && !seen ks j (m / 2) (.mk k' n' t' ks')) = y := ⟨_, rfl⟩
                        have HY := Lib.hid (show (U && !seen ks j (m / 2 + 1) (.mk k' n' t' ks')) = (y && !z) by rw [HST.out, ← hy]; cases U <;> cases (seen ks j (m / 2) (.mk k' n' t' ks')) <;> cases z <;> rfl)
                        rw [hy]
                        clear hy HST
                        cases y with
                        | false =>
                          go_wp2_with fail
                          go_quiet (fail)
                          go_wp2_with fail
                          go_roundw
                          case rel => exact ⟨m + 2, by omega, by go_num, by rw [show (m + 2) / 2 = m / 2 + 1 by omega, HY.out]; rfl, below_drewN hb _⟩
                          case measure => simp [intOf]; omega
                        | true =>
                          go_wp2_with fail
                          go_region_held3 (fun wx => wx.cell? ⟨b, o + j * 4, none⟩ = some (.int .u8 (k' : Int)) ∧ wx.cell? ⟨b, o + j * 4 + 1, none⟩ = some (.int .u64 (n' : Int)) ∧ wx.cell? ⟨b, o + j * 4 + 2, none⟩ = some (.string t') ∧ wx.cell? ⟨b, o + j * 4 + 3, none⟩ = some (.slice A' l' c') ∧ wx.cell? ⟨b, o + m * 4, none⟩ = some (.int .u8 (k2 : Int)) ∧ wx.cell? ⟨b, o + m * 4 + 1, none⟩ = some (.int .u64 (n2 : Int)) ∧ wx.cell? ⟨b, o + m * 4 + 2, none⟩ = some (.string t2) ∧ wx.cell? ⟨b, o + m * 4 + 3, none⟩ = some (.slice A2 l2 c2) ∧ Below wr.heap.size wr wx) (with_reducible first | assumption | exact held4 hE1 hE2 hH0 | exact held4 hE1 hE2 hc1 | fail)
                            (first
                            | (go_at_call 18; (with_reducible refine (vsame_any k' n' t' ks' A' l' c' k2 n2 t2 ks2 A2 l2 c2 _ HBN.out (hE1.kd.call hH0) (hE2.kd.call hH0)).mono ?_); rw [HZ.out]; rintro e w1 ⟨rfl, hb1⟩; have hc1 := below_next hH0 hb1)
                            | fail)
                          all_goals
                            go_wp2_with fail
                            go_roundw
                            case rel => exact ⟨m + 2, by omega, by go_num, by rw [show (m + 2) / 2 = m / 2 + 1 by omega, HY.out]; rfl, below_next hb hc1⟩
                            case measure => simp [intOf]; omega
                      · have HUJ := Lib.hid (show (E && unl ks (j + 1)) = (U && !seen ks j (m / 2) (.mk k' n' t' ks')) by rw [HUE.out, seen_all (by omega), ← HU.out, Bool.and_assoc])
                        go_wp2_with fail
                        go_roundw
                        case rel => exact ⟨j + 1, by omega, by go_num, by rw [HAJ.out], by rw [HUJ.out], hb, HFJ.out⟩
                        case measure => simp [intOf]; omega
                  · have m1 : (j : Int) % 2 = 1 := by omega
                    have m2 : Int.tmod (j : Int) 2 = 1 := by rw [Int.tmod_eq_emod_of_nonneg (by omega)]; omega
                    have HUJ := Lib.hid (show (E && unl ks (j + 1)) = U by rw [unl_odd (by omega) (by omega)]; exact HU.out)
                    clear hpar
                    go_wp2_with fail
                    go_loopw [4, 6] (fun u kk wr => ∃ m : Nat, 2 * m + 1 ≤ j ∧ kk = .int .i64 ((2 * m + 1 : Nat) : Int) ∧ u = .bool U ∧ Below w.heap.size w wr) (fun _ kk _ => j - (intOf kk).toNat)
                    case atStart => exact ⟨0, by omega, rfl, rfl, hb⟩
                    case round =>
                      obtain ⟨m, hm, rfl, rfl, hb⟩ := hrel
                      by_cases hmj : 2 * m + 1 < j
                      · go_wp2_with fail
                        cases U
                        all_goals
                          go_quiet (fail)
                          go_wp2_with fail
                          go_roundw
                          case rel => exact ⟨m + 1, by omega, by go_num, rfl, below_drewN hb _⟩
                          case measure => simp [intOf]; omega
                      · go_wp2_with fail
                        go_roundw
                        case rel => exact ⟨j + 1, by omega, by go_num, by rw [HAJ.out], by rw [HUJ.out], hb, HFJ.out⟩
                        case measure => simp [intOf]; omega
              · have e16 : decide (16 ≤ (D : Int)) = true := by simp; omega
                go_wp2_with (first
                  | (go_at_call 13; (with_reducible refine (HX.right hEl.kd hT).mono ?_); rintro e w2 ⟨rfl, hb2⟩; have hb := below_next hb hb2; have hT := tab_call hT hb2; have hEl := hEl.call hb2; have hh := hEl.cells; obtain ⟨h0, h1, h2, h3⟩ := hh)
                  | (go_at_call 28; (with_reducible refine (HX.depth hEl.kd).mono ?_); rintro e w3 ⟨rfl, hb3⟩; have hb := below_next hb hb3; have hT := tab_call hT hb3)
                  | (go_at_call 11; (with_reducible refine (works_any _ hT).mono ?_); rintro e w4 ⟨rfl, hb4⟩; have hb := below_next hb hb4))
                go_ret
                exact ⟨rfl, hb⟩
        · obtain rfl : j = l := by omega
          have HEQ : Hid (ks.take j = ks) := Lib.hid (List.take_of_length_le (by omega))
          rw [HEQ.out] at HF ⊢
          have hlen : ks.length = j := by omega
          have ha := ok_arr HF.out
          have hm := ok_map HF.out
          rw [hlen, HE.out] at hm
          have hit := itemsL_le ks
          have hbN : bulkL ks ≤ 1048576 := HN.out
          obtain ⟨Q, hQ⟩ : ∃ Q, alk (kind0 ks) ks = Q := ⟨_, rfl⟩
          obtain ⟨U, hU⟩ : ∃ U, (E && unl ks j) = U := ⟨_, rfl⟩
          obtain ⟨J, hJ⟩ : ∃ J, itemsL ks + 1 = J := ⟨_, rfl⟩
          rw [hQ, hJ] at ha
          rw [hU, hJ] at hm
          rw [hQ, hU]
          have TA : Tells 24 0 ⟨#[]⟩ ks (Q && decide (J ≤ 1024)) (depthL ks + 1) J := ⟨ha, depth_mk _ _ _ _, hJ ▸ items_mk _ _ _ _, by show bulkL ks + 0 + 1 ≤ 2097152; omega, by omega⟩
          have TM : Tells 23 0 ⟨#[]⟩ ks (U && decide (J ≤ 1024)) (depthL ks + 1) J := ⟨hm, depth_mk _ _ _ _, hJ ▸ items_mk _ _ _ _, by show bulkL ks + 0 + 1 ≤ 2097152; omega, by omega⟩
          have e1 := dec_nat' J 1024
          obtain ⟨F, hF⟩ : ∃ F, decide (J ≤ 1024) = F := ⟨_, rfl⟩
          rw [hF] at TA TM e1
          simp only [Int.cast_ofNat_Int] at e1
          have HE1 := Lib.hid e1
          have hK := HK.out.call hb
          have HJ9 := Lib.hid (show J ≤ 1048577 by omega)
          clear ha hm hQ hU hJ hF hit hlen hbN e1
          go_wp2_with fail
          refine (arr_many hK HN.out).mono ?_
          rintro e w2 ⟨A2, l2, c2, rfl, hN2, hb2⟩
          have hbx := (below_next hb hb2).alloc (below_next hb hb2).size (.cells #[.int .u8 24, .int .u64 0, .string ⟨#[]⟩, .slice A2 l2 c2] 25)
          have B2 := Box.new w2 (.int .u8 24) (.int .u64 0) (.string ⟨#[]⟩) (.slice A2 l2 c2)
          have hK2 := hN2.kd.alloc (.cells #[.int .u8 24, .int .u64 0, .string ⟨#[]⟩, .slice A2 l2 c2] 25)
          have hKx := HK.out.call hbx
          clear hN2 hK hT
          go_wp2_with fail
          refine (map_many hKx HN.out).mono ?_
          rintro e w3 ⟨A3, l3, c3, rfl, hN3, hb3⟩
          have hby := (below_next hbx hb3).alloc (below_next hbx hb3).size (.cells #[.int .u8 23, .int .u64 0, .string ⟨#[]⟩, .slice A3 l3 c3] 25)
          have C2 := (B2.call hb3).alloc (.cells #[.int .u8 23, .int .u64 0, .string ⟨#[]⟩, .slice A3 l3 c3] 25)
          have C3 := Box.new w3 (.int .u8 23) (.int .u64 0) (.string ⟨#[]⟩) (.slice A3 l3 c3)
          have hK3 := hN3.kd.alloc (.cells #[.int .u8 23, .int .u64 0, .string ⟨#[]⟩, .slice A3 l3 c3] 25)
          have hK2 := (hK2.call hb3).alloc (.cells #[.int .u8 23, .int .u64 0, .string ⟨#[]⟩, .slice A3 l3 c3] 25)
          have hlt2 := (B2.call hb3).lt
          have cc := (B2.call hb3).all
          obtain ⟨p0, p1, p2, p3, pf⟩ := cc
          clear hN3 B2 hKx
          go_wp2_with fail
          obtain ⟨W, hW⟩ : ∃ W, w3.alloc (.cells #[.int .u8 23, .int .u64 0, .string ⟨#[]⟩, .slice A3 l3 c3] 25) = W := ⟨_, rfl⟩
          rw [hW] at hby C2 C3 hK3 hK2 ⊢
          clear hW p0 p1 p2 p3 pf
          refine (arr_items TA hK2).mono ?_
          rintro e w4 ⟨rfl, hb4⟩
          have hT := ht.call (below_next hby hb4)
          have D2 := (C2.call hb4).all
          obtain ⟨p0, p1, p2, p3, pf⟩ := D2
          have D3 := (C3.call hb4).all
          obtain ⟨q0, q1, q2, q3, qf⟩ := D3
          have e1 := HE1.out
          go_upto_region 18 with (fail)
          clear e1
          have C2 := C2.call hb4
          have C3 := C3.call hb4
          have hK2 := hK2.call hb4
          have hK3 := hK3.call hb4
          cases Q <;> cases U <;> cases F
          all_goals
            go_wp2_with (first
              | (go_at_call 13; (with_reducible refine (arr_right TA hK2 hT).mono ?_); rintro e w5 ⟨rfl, hb5⟩; have hT5 := tab_call hT hb5; have D3 := (C3.call hb5).all; obtain ⟨q0, q1, q2, q3, qf⟩ := D3)
              | (go_at_call 13; (with_reducible refine (map_right TM (hK3.call hb5) hT5).mono ?_); rintro e w6 ⟨rfl, hb6⟩; have hT6 := tab_call hT5 hb6)
              | (go_at_call 11; (with_reducible refine (works_any _ hT6).mono ?_); rintro e w7 ⟨rfl, hb7⟩))
            go_ret
            exact ⟨rfl, below_next (below_next (below_next (below_next hby hb4) hb5) hb6) hb7⟩
end Go.Proofs.YtdbcdabijolagaaDoor.valueAlike
