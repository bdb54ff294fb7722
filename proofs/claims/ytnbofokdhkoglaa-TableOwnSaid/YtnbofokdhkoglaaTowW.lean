/-
  The statement TableOwn, walked: it answers true. Memory that was there stays. Condition: a slice of less than 2^63 steps.
-/
import Derived.Test.YtnbofokdhkoglaaTalW
import Derived.Test.YtnbofokdhkoglaaTbb
namespace Go.Proofs.Ytnbofokdhkoglaa.tableOwn
set_option maxRecDepth 100000
open Go.RowKit Go.Proofs.Ytnbofokdhkoglaa.Utf Go.Proofs.Ytnbofokdhkoglaa.Tb Go.Proofs.Ytnbofokdhkoglaa.tableAll

theorem off_cell {X : Nat → Prop} {w w' : World} {g : Nat} (h : Off X w w') (hg : g < w.heap.size) (hx : ¬ X g) (j : Nat) : w'.cell? ⟨g, j, none⟩ = w.cell? ⟨g, j, none⟩ := by
  simp only [World.cell?, h.block g hg hx]
theorem do_at {p b : Nat} {L L' : List Bool} {k x : Int} {v : Value} (w : World) (t : Tin w p b L) (hx : (Lit.int .i64 x).wf = true) (hr : rowT L k x = L') (hv : DoV L k x = v) : Calls Try.prog 11 #[.pointer (some ⟨p, 0, none⟩), .agg #[.int .i64 k, .int .i64 x]] w (GivesRow p b L' v w) := by
  subst hr; subst hv; exact do_any k x w t hx
set_option maxHeartbeats 8000000 in
theorem walk (n : Nat) (ss : List (Int × Int)) (A : Option Addr) (l c : Nat) (w : World) (hn : n < 256) (hr : Stp w w.heap.size A l ss) (hc : l ≤ 9223372036854775807) :
    Calls Try.prog 4 #[.int .u8 (n : Int), .slice A l c] w fun e w' => e = .returned (.bool true) ∧ Below w.heap.size w w' := by
  have HR := Lib.hid hr
  have HN := Lib.hid (fun wx => new_yes n wx (by omega))
  clear hr
  by_cases hbig : 300 < l
  · have d1 : decide (300 < (l : Int)) = true := by simp; omega
    go_enter Try.func4, Try.ntmps4
    go_wp2_with (first
      | (go_at_call 8; (with_reducible refine (works13_any _).mono ?_); rintro e w2 ⟨rfl, hb2⟩)
      | fail)
    go_ret
    exact ⟨rfl, hb2⟩
  · have d1 : decide (300 < (l : Int)) = false := by simp; omega
    have iw : IntKind.i64.wrap (n : Int) = (n : Int) := IntWalk.i64_in _ (by omega)
    have iw1 : IntKind.i64.wrap ((n : Int) + 1) = ((n + 1 : Nat) : Int) := by rw [show (n : Int) + 1 = ((n + 1 : Nat) : Int) by simp]; exact IntWalk.i64_in _ (by omega)
    go_enter Try.func4, Try.ntmps4
    go_wp2_with (first
      | (go_at_call 9; (with_reducible refine (HN.out _).mono ?_); rintro e w1 ⟨p, b, rfl, t1, hp, hq, hb1⟩; have HT1 := Lib.hid t1; have HB1 := Lib.hid (And.intro hp (And.intro hq hb1)); clear t1 hp hq hb1)
      | (refine wpList_makeB _ rfl _ _ rfl _ n rfl rfl (by first | rfl | simp) (by omega) ?_; intro w2 hk2 hb2; have HK2 := Lib.hid hk2; have HB2 := Lib.hid hb2; clear hk2 hb2)
      | fail)
    obtain ⟨h, hh⟩ : ∃ h, w1.heap.size = h := ⟨_, rfl⟩
    have HH := Lib.hid hh
    have HP := Lib.hid (show h ≠ p ∧ h ≠ b ∧ w.heap.size ≤ h by have h1 := HT1.out.plt; have h2 := HT1.out.blt; have h3 := HB1.out.2.2.size; omega)
    rw [hh] at HK2 ⊢
    have HT2 := Lib.hid (HT1.out.call HB2.out)
    have HB3 := Lib.hid (bn HB1.out.2.2 HB2.out)
    clear HB2 HH hh
    go_loopw [8, 9, 10, 11, 12] (fun i _ _ _ _ wr => ∃ (j : Nat) (L : List Bool), j ≤ l ∧ i = .int .i64 (j : Int) ∧ L.length = n + 1 ∧ Tin wr p b L ∧ BlkB wr h L ∧ Below w.heap.size w wr) (fun i _ _ _ _ _ => l - (Go.RowKit.intOf i).toNat)
    case atStart => exact ⟨0, noneT n, by omega, rfl, by simp [noneT], HT2.out, HK2.out, HB3.out⟩
    case round =>
      obtain ⟨j, L, hj, rfl, hL, t, hk, hb⟩ := hrel
      have HT := Lib.hid t
      have HB := Lib.hid hb
      have HK := Lib.hid hk
      have HL := Lib.hid hL
      by_cases hlt : j < l
      · obtain ⟨sb, so, k, x, rfl, hsb, _, c0, c1, wk, wx⟩ := (HR.out.call hb).2 j hlt
        have d2 : decide ((j : Int) < (l : Int)) = true := by simpa using hlt
        have i0 : (0 : Int) ≤ (j : Int) := by omega
        have i1 : (j : Int) < (l : Int) := by omega
        have HS := Lib.hid (show sb < wr.heap.size ∧ ¬ Xp p b sb from ⟨Nat.lt_of_lt_of_le hsb hb.size, fun e => by have h1 := HB1.out; rcases e with e | e <;> omega⟩)
        have HX := Lib.hid (show ¬ Xp p b h from fun e => by have h1 := HP.out; rcases e with e | e <;> omega)
        have HW := Lib.hid wx
        clear hsb wk
        by_cases hk0 : k = 0
        · subst hk0
          by_cases hx0 : 0 ≤ x
          · have e0 : decide (0 ≤ x) = true := by simpa using hx0
            by_cases hxn : x ≤ (n : Int)
            · have e1 : decide (x ≤ (n : Int)) = true := by simpa using hxn
              obtain ⟨i, rfl⟩ := Int.eq_ofNat_of_zero_le hx0
              have hin : i < n + 1 := by omega
              have HI := Lib.hid hin
              have f0 : (0 : Int) ≤ (i : Int) := by omega
              have f1 : (i : Int) < (n : Int) + 1 := by omega
              have f2 : (i : Int) < ((n + 1 : Nat) : Int) := by omega
              have mn : min (i : Int) (n : Int) = (i : Int) := by omega
              have mx : max (0 : Int) (i : Int) = (i : Int) := by omega
              cases hh : hasT L (i : Int)
              · have HHH := Lib.hid hh
                have hm : mayT L (i : Int) = true := by exact mayT_iff.2 ⟨by omega, by omega, hh⟩
                have HD := Lib.hid (do_at (k := 0) (L' := L.set i true) (v := Value.tuple #[.int .i64 0, .bool true]) wr t wx (by simp [rowT, hm]) (by simp [DoV, numT, isT, hm]))
                clear t hb hk hL wx hh hm hin
                go_wp2_with (first
                  | (go_at_call 11; (with_reducible refine HD.out.mono ?_); rintro e w3 ⟨rfl, t3, o3⟩; have y0 := (off_cell o3 HS.out.1 HS.out.2 _).trans c0; have y1 := (off_cell o3 HS.out.1 HS.out.2 _).trans c1; have k3 := HK.out.off o3 HX.out; have z := k3.cell (j := i) (by have := HI.out; have := HL.out; omega); rw [HHH.out] at z; have zf := k3.frz i)
                  | fail)
                have so3 : Off (fun q => q = h) w3 (w3.setCell ⟨h, i, none⟩ (.bool true)) := Off.set _ _ _ rfl
                have T3 := t3.off so3 (by have := HP.out; omega) (by have := HP.out; omega)
                have B3 := (HB.out.trans (Off.bo o3 HB.out.size HB1.out.1 HB1.out.2.1)).trans (so3.below (Nat.le_trans HB.out.size o3.size) fun q hq e => by have e' : q = h := e; have := HP.out; omega)
                go_roundw
                case rel => exact ⟨j + 1, L.set i true, by omega, by go_num, by simpa [List.length_set] using HL.out, T3, k3.set i true, B3⟩
                case measure => simp [Go.RowKit.intOf]; omega
              · have HHH := Lib.hid hh
                have hm : mayT L (i : Int) = false := by simp [mayT, hh]
                have HD := Lib.hid (do_at (k := 0) (L' := L) (v := Value.tuple #[.int .i64 0, .bool false]) wr t wx (by simp [rowT, hm]) (by simp [DoV, numT, isT, hm]))
                clear t hb hk hL wx hh hm hin
                go_wp2_with (first
                  | (go_at_call 11; (with_reducible refine HD.out.mono ?_); rintro e w3 ⟨rfl, t3, o3⟩; have y0 := (off_cell o3 HS.out.1 HS.out.2 _).trans c0; have y1 := (off_cell o3 HS.out.1 HS.out.2 _).trans c1; have k3 := HK.out.off o3 HX.out; have z := k3.cell (j := i) (by have := HI.out; have := HL.out; omega); rw [HHH.out] at z; have zf := k3.frz i)
                  | fail)
                have T3 := t3
                have B3 := HB.out.trans (Off.bo o3 HB.out.size HB1.out.1 HB1.out.2.1)
                go_roundw
                case rel => exact ⟨j + 1, L, by omega, by go_num, by simpa [List.length_set] using HL.out, T3, k3, B3⟩
                case measure => simp [Go.RowKit.intOf]; omega
            · have e1 : decide (x ≤ (n : Int)) = false := by simpa using hxn
              have hh : hasT L x = false := hasT_far (by omega)
              have hm : mayT L x = false := by
                cases hq : mayT L x
                · rfl
                · have := mayT_iff.1 hq; omega
              have HD := Lib.hid (do_at (k := 0) (L' := L) (v := Value.tuple #[.int .i64 0, .bool false]) wr t wx (by simp [rowT, hm]) (by simp [DoV, numT, isT, hm]))
              clear t hb hk hL wx hh hm
              go_wp2_with (first
                | (go_at_call 11; (with_reducible refine HD.out.mono ?_); rintro e w3 ⟨rfl, t3, o3⟩; have y0 := (off_cell o3 HS.out.1 HS.out.2 _).trans c0; have y1 := (off_cell o3 HS.out.1 HS.out.2 _).trans c1; have k3 := HK.out.off o3 HX.out)
                | fail)
              have T3 := t3
              have B3 := HB.out.trans (Off.bo o3 HB.out.size HB1.out.1 HB1.out.2.1)
              go_roundw
              case rel => exact ⟨j + 1, L, by omega, by go_num, by simpa [List.length_set] using HL.out, T3, k3, B3⟩
              case measure => simp [Go.RowKit.intOf]; omega
          · have e0 : decide (0 ≤ x) = false := by simpa using hx0
            have hh : hasT L x = false := hasT_neg (by omega)
            have hm : mayT L x = false := by
              cases hq : mayT L x
              · rfl
              · have := mayT_iff.1 hq; omega
            have HD := Lib.hid (do_at (k := 0) (L' := L) (v := Value.tuple #[.int .i64 0, .bool false]) wr t wx (by simp [rowT, hm]) (by simp [DoV, numT, isT, hm]))
            clear t hb hk hL wx hh hm
            go_wp2_with (first
              | (go_at_call 11; (with_reducible refine HD.out.mono ?_); rintro e w3 ⟨rfl, t3, o3⟩; have y0 := (off_cell o3 HS.out.1 HS.out.2 _).trans c0; have y1 := (off_cell o3 HS.out.1 HS.out.2 _).trans c1; have k3 := HK.out.off o3 HX.out)
              | fail)
            have T3 := t3
            have B3 := HB.out.trans (Off.bo o3 HB.out.size HB1.out.1 HB1.out.2.1)
            go_roundw
            case rel => exact ⟨j + 1, L, by omega, by go_num, by simpa [List.length_set] using HL.out, T3, k3, B3⟩
            case measure => simp [Go.RowKit.intOf]; omega
        · have e0k : (k == 0) = false := by simpa using hk0
          by_cases hk2 : k = 2
          · subst hk2
            by_cases hx0 : 0 ≤ x
            · have e0 : decide (0 ≤ x) = true := by simpa using hx0
              by_cases hxn : x ≤ (n : Int)
              · have e1 : decide (x ≤ (n : Int)) = true := by simpa using hxn
                obtain ⟨i, rfl⟩ := Int.eq_ofNat_of_zero_le hx0
                have hin : i < n + 1 := by omega
                have HI := Lib.hid hin
                have f0 : (0 : Int) ≤ (i : Int) := by omega
                have f1 : (i : Int) < (n : Int) + 1 := by omega
                have f2 : (i : Int) < ((n + 1 : Nat) : Int) := by omega
                have mn : min (i : Int) (n : Int) = (i : Int) := by omega
                have mx : max (0 : Int) (i : Int) = (i : Int) := by omega
                cases hh : hasT L (i : Int)
                · have HHH := Lib.hid hh
                  have hm : hasT L (i : Int) = false := hh
                  have HD := Lib.hid (do_at (k := 2) (L' := L) (v := Value.tuple #[.int .i64 0, .bool false]) wr t wx (by simp [rowT, hm]) (by simp [DoV, numT, isT, hm]))
                  clear t hb hk hL wx hh hm hin
                  go_wp2_with (first
                    | (go_at_call 11; (with_reducible refine HD.out.mono ?_); rintro e w3 ⟨rfl, t3, o3⟩; have y0 := (off_cell o3 HS.out.1 HS.out.2 _).trans c0; have y1 := (off_cell o3 HS.out.1 HS.out.2 _).trans c1; have k3 := HK.out.off o3 HX.out; have z := k3.cell (j := i) (by have := HI.out; have := HL.out; omega); rw [HHH.out] at z; have zf := k3.frz i)
                    | fail)
                  have T3 := t3
                  have B3 := HB.out.trans (Off.bo o3 HB.out.size HB1.out.1 HB1.out.2.1)
                  go_roundw
                  case rel => exact ⟨j + 1, L, by omega, by go_num, by simpa [List.length_set] using HL.out, T3, k3, B3⟩
                  case measure => simp [Go.RowKit.intOf]; omega
                · have HHH := Lib.hid hh
                  have hm : hasT L (i : Int) = true := hh
                  have HD := Lib.hid (do_at (k := 2) (L' := L.set i false) (v := Value.tuple #[.int .i64 0, .bool true]) wr t wx (by simp [rowT, hm]) (by simp [DoV, numT, isT, hm]))
                  clear t hb hk hL wx hh hm hin
                  go_wp2_with (first
                    | (go_at_call 11; (with_reducible refine HD.out.mono ?_); rintro e w3 ⟨rfl, t3, o3⟩; have y0 := (off_cell o3 HS.out.1 HS.out.2 _).trans c0; have y1 := (off_cell o3 HS.out.1 HS.out.2 _).trans c1; have k3 := HK.out.off o3 HX.out; have z := k3.cell (j := i) (by have := HI.out; have := HL.out; omega); rw [HHH.out] at z; have zf := k3.frz i)
                    | fail)
                  have so3 : Off (fun q => q = h) w3 (w3.setCell ⟨h, i, none⟩ (.bool false)) := Off.set _ _ _ rfl
                  have T3 := t3.off so3 (by have := HP.out; omega) (by have := HP.out; omega)
                  have B3 := (HB.out.trans (Off.bo o3 HB.out.size HB1.out.1 HB1.out.2.1)).trans (so3.below (Nat.le_trans HB.out.size o3.size) fun q hq e => by have e' : q = h := e; have := HP.out; omega)
                  go_roundw
                  case rel => exact ⟨j + 1, L.set i false, by omega, by go_num, by simpa [List.length_set] using HL.out, T3, k3.set i false, B3⟩
                  case measure => simp [Go.RowKit.intOf]; omega
              · have e1 : decide (x ≤ (n : Int)) = false := by simpa using hxn
                have hh : hasT L x = false := hasT_far (by omega)
                have hm : hasT L x = false := hh
                have HD := Lib.hid (do_at (k := 2) (L' := L) (v := Value.tuple #[.int .i64 0, .bool false]) wr t wx (by simp [rowT, hm]) (by simp [DoV, numT, isT, hm]))
                clear t hb hk hL wx hh hm
                go_wp2_with (first
                  | (go_at_call 11; (with_reducible refine HD.out.mono ?_); rintro e w3 ⟨rfl, t3, o3⟩; have y0 := (off_cell o3 HS.out.1 HS.out.2 _).trans c0; have y1 := (off_cell o3 HS.out.1 HS.out.2 _).trans c1; have k3 := HK.out.off o3 HX.out)
                  | fail)
                have T3 := t3
                have B3 := HB.out.trans (Off.bo o3 HB.out.size HB1.out.1 HB1.out.2.1)
                go_roundw
                case rel => exact ⟨j + 1, L, by omega, by go_num, by simpa [List.length_set] using HL.out, T3, k3, B3⟩
                case measure => simp [Go.RowKit.intOf]; omega
            · have e0 : decide (0 ≤ x) = false := by simpa using hx0
              have hh : hasT L x = false := hasT_neg (by omega)
              have hm : hasT L x = false := hh
              have HD := Lib.hid (do_at (k := 2) (L' := L) (v := Value.tuple #[.int .i64 0, .bool false]) wr t wx (by simp [rowT, hm]) (by simp [DoV, numT, isT, hm]))
              clear t hb hk hL wx hh hm
              go_wp2_with (first
                | (go_at_call 11; (with_reducible refine HD.out.mono ?_); rintro e w3 ⟨rfl, t3, o3⟩; have y0 := (off_cell o3 HS.out.1 HS.out.2 _).trans c0; have y1 := (off_cell o3 HS.out.1 HS.out.2 _).trans c1; have k3 := HK.out.off o3 HX.out)
                | fail)
              have T3 := t3
              have B3 := HB.out.trans (Off.bo o3 HB.out.size HB1.out.1 HB1.out.2.1)
              go_roundw
              case rel => exact ⟨j + 1, L, by omega, by go_num, by simpa [List.length_set] using HL.out, T3, k3, B3⟩
              case measure => simp [Go.RowKit.intOf]; omega
          · have e2k : (k == 2) = false := by simpa using hk2
            by_cases hk1 : k = 1
            · subst hk1
              obtain ⟨q, hq⟩ : ∃ q, lowT L = q := ⟨_, rfl⟩
              have HQ := Lib.hid (fun m (hm : m < q) => low_has (L := L) (j := m) (by omega))
              have HQN := Lib.hid (show hasT L (q : Int) = false by rw [← hq]; exact low_not)
              have hql := low_le L
              rw [hq] at hql
              have HQL := Lib.hid hql
              by_cases hx0 : 0 ≤ x
              · have e0 : decide (0 ≤ x) = true := by simpa using hx0
                obtain ⟨dd, hdd⟩ : ∃ d, decide (x ≤ (n : Int)) = d := ⟨_, rfl⟩
                by_cases hqn : q < L.length
                · have HD := Lib.hid (do_at (k := 1) (L' := L.set q true) (v := .tuple #[.int .i64 (q : Int), .bool true]) wr t wx (by simp [rowT, hq, hqn]) (by simp [DoV, numT, isT, hq, hqn]))
                  have hqn' : q ≤ n := by omega
                  clear t hb hk hL wx hq hql hqn hx0
                  go_wp2_with (first
                    | (go_at_call 11; (with_reducible refine HD.out.mono ?_); rintro e w3 ⟨rfl, t3, o3⟩; have y0 := (off_cell o3 HS.out.1 HS.out.2 _).trans c0; have y1 := (off_cell o3 HS.out.1 HS.out.2 _).trans c1; have K3 := Lib.hid (HK.out.off o3 HX.out); have T3 := Lib.hid t3; have O3 := Lib.hid o3; clear t3 o3)
                    | fail)
                  go_loopw [12] (fun s wz => ∃ m : Nat, m ≤ q ∧ s = .int .i64 (m : Int) ∧ w3 = wz) (fun s _ => n + 1 - (Go.RowKit.intOf s).toNat)
                  case atStart => exact ⟨0, by omega, rfl, rfl⟩
                  case round =>
                    obtain ⟨m, hm, rfl, rfl⟩ := hrel
                    have d3 : decide ((m : Int) ≤ (n : Int)) = true := by simp; omega
                    have j0 : (0 : Int) ≤ (m : Int) := by omega
                    have j1 : (m : Int) < (n : Int) + 1 := by omega
                    have hml : m < L.length := by have := HL.out; omega
                    have z := K3.out.cell hml
                    by_cases hlt2 : m < q
                    · rw [HQ.out m hlt2] at z
                      clear hml
                      go_wp2_with fail
                      go_roundw
                      case rel => exact ⟨m + 1, by omega, by go_num, trivial⟩
                      case measure => simp [Go.RowKit.intOf]; omega
                    · obtain rfl : m = q := by omega
                      rw [HQN.out] at z
                      have zf := K3.out.frz m
                      clear hml
                      go_wp2_with fail
                      have so3 : Off (fun q => q = h) w3 (w3.setCell ⟨h, m, none⟩ (.bool true)) := Off.set _ _ _ rfl
                      have T4 := T3.out.off so3 (by have := HP.out; omega) (by have := HP.out; omega)
                      have B3 := (HB.out.trans (Off.bo O3.out HB.out.size HB1.out.1 HB1.out.2.1)).trans (so3.below (Nat.le_trans HB.out.size O3.out.size) fun q hq e => by have e' : q = h := e; have := HP.out; omega)
                      go_roundw
                      case rel => exact ⟨j + 1, L.set m true, by omega, by go_num, by simpa [List.length_set] using HL.out, T4, K3.out.set m true, B3⟩
                      case measure => simp [Go.RowKit.intOf]; omega
                · have HD := Lib.hid (do_at (k := 1) (L' := L) (v := .tuple #[.int .i64 0, .bool false]) wr t wx (by simp [rowT, hq, hqn]) (by simp [DoV, numT, isT, hq, hqn]))
                  have hqn' : q = n + 1 := by omega
                  clear t hb hk hL wx hq hql hqn hx0
                  go_wp2_with (first
                    | (go_at_call 11; (with_reducible refine HD.out.mono ?_); rintro e w3 ⟨rfl, t3, o3⟩; have y0 := (off_cell o3 HS.out.1 HS.out.2 _).trans c0; have y1 := (off_cell o3 HS.out.1 HS.out.2 _).trans c1; have K3 := Lib.hid (HK.out.off o3 HX.out); have T3 := Lib.hid t3; have O3 := Lib.hid o3; clear t3 o3)
                    | fail)
                  go_loopw [12] (fun s wz => ∃ m : Nat, m ≤ q ∧ s = .int .i64 (m : Int) ∧ w3 = wz) (fun s _ => n + 1 - (Go.RowKit.intOf s).toNat)
                  case atStart => exact ⟨0, by omega, rfl, rfl⟩
                  case round =>
                    obtain ⟨m, hm, rfl, rfl⟩ := hrel
                    by_cases hlt2 : m < q
                    · have d3 : decide ((m : Int) ≤ (n : Int)) = true := by simp; omega
                      have j0 : (0 : Int) ≤ (m : Int) := by omega
                      have j1 : (m : Int) < (n : Int) + 1 := by omega
                      have hml : m < L.length := by have := HL.out; omega
                      have z := K3.out.cell hml
                      rw [HQ.out m hlt2] at z
                      clear hml
                      go_wp2_with fail
                      go_roundw
                      case rel => exact ⟨m + 1, by omega, by go_num, trivial⟩
                      case measure => simp [Go.RowKit.intOf]; omega
                    · have d3 : decide ((m : Int) ≤ (n : Int)) = false := by simp; omega
                      go_wp2_with fail
                      have B3 := HB.out.trans (Off.bo O3.out HB.out.size HB1.out.1 HB1.out.2.1)
                      go_roundw
                      case rel => exact ⟨j + 1, L, by omega, by go_num, HL.out, T3.out, K3.out, B3⟩
                      case measure => simp [Go.RowKit.intOf]; omega
              · have e0 : decide (0 ≤ x) = false := by simpa using hx0
                by_cases hqn : q < L.length
                · have HD := Lib.hid (do_at (k := 1) (L' := L.set q true) (v := .tuple #[.int .i64 (q : Int), .bool true]) wr t wx (by simp [rowT, hq, hqn]) (by simp [DoV, numT, isT, hq, hqn]))
                  have hqn' : q ≤ n := by omega
                  clear t hb hk hL wx hq hql hqn hx0
                  go_wp2_with (first
                    | (go_at_call 11; (with_reducible refine HD.out.mono ?_); rintro e w3 ⟨rfl, t3, o3⟩; have y0 := (off_cell o3 HS.out.1 HS.out.2 _).trans c0; have y1 := (off_cell o3 HS.out.1 HS.out.2 _).trans c1; have K3 := Lib.hid (HK.out.off o3 HX.out); have T3 := Lib.hid t3; have O3 := Lib.hid o3; clear t3 o3)
                    | fail)
                  go_loopw [12] (fun s wz => ∃ m : Nat, m ≤ q ∧ s = .int .i64 (m : Int) ∧ w3 = wz) (fun s _ => n + 1 - (Go.RowKit.intOf s).toNat)
                  case atStart => exact ⟨0, by omega, rfl, rfl⟩
                  case round =>
                    obtain ⟨m, hm, rfl, rfl⟩ := hrel
                    have d3 : decide ((m : Int) ≤ (n : Int)) = true := by simp; omega
                    have j0 : (0 : Int) ≤ (m : Int) := by omega
                    have j1 : (m : Int) < (n : Int) + 1 := by omega
                    have hml : m < L.length := by have := HL.out; omega
                    have z := K3.out.cell hml
                    by_cases hlt2 : m < q
                    · rw [HQ.out m hlt2] at z
                      clear hml
                      go_wp2_with fail
                      go_roundw
                      case rel => exact ⟨m + 1, by omega, by go_num, trivial⟩
                      case measure => simp [Go.RowKit.intOf]; omega
                    · obtain rfl : m = q := by omega
                      rw [HQN.out] at z
                      have zf := K3.out.frz m
                      clear hml
                      go_wp2_with fail
                      have so3 : Off (fun q => q = h) w3 (w3.setCell ⟨h, m, none⟩ (.bool true)) := Off.set _ _ _ rfl
                      have T4 := T3.out.off so3 (by have := HP.out; omega) (by have := HP.out; omega)
                      have B3 := (HB.out.trans (Off.bo O3.out HB.out.size HB1.out.1 HB1.out.2.1)).trans (so3.below (Nat.le_trans HB.out.size O3.out.size) fun q hq e => by have e' : q = h := e; have := HP.out; omega)
                      go_roundw
                      case rel => exact ⟨j + 1, L.set m true, by omega, by go_num, by simpa [List.length_set] using HL.out, T4, K3.out.set m true, B3⟩
                      case measure => simp [Go.RowKit.intOf]; omega
                · have HD := Lib.hid (do_at (k := 1) (L' := L) (v := .tuple #[.int .i64 0, .bool false]) wr t wx (by simp [rowT, hq, hqn]) (by simp [DoV, numT, isT, hq, hqn]))
                  have hqn' : q = n + 1 := by omega
                  clear t hb hk hL wx hq hql hqn hx0
                  go_wp2_with (first
                    | (go_at_call 11; (with_reducible refine HD.out.mono ?_); rintro e w3 ⟨rfl, t3, o3⟩; have y0 := (off_cell o3 HS.out.1 HS.out.2 _).trans c0; have y1 := (off_cell o3 HS.out.1 HS.out.2 _).trans c1; have K3 := Lib.hid (HK.out.off o3 HX.out); have T3 := Lib.hid t3; have O3 := Lib.hid o3; clear t3 o3)
                    | fail)
                  go_loopw [12] (fun s wz => ∃ m : Nat, m ≤ q ∧ s = .int .i64 (m : Int) ∧ w3 = wz) (fun s _ => n + 1 - (Go.RowKit.intOf s).toNat)
                  case atStart => exact ⟨0, by omega, rfl, rfl⟩
                  case round =>
                    obtain ⟨m, hm, rfl, rfl⟩ := hrel
                    by_cases hlt2 : m < q
                    · have d3 : decide ((m : Int) ≤ (n : Int)) = true := by simp; omega
                      have j0 : (0 : Int) ≤ (m : Int) := by omega
                      have j1 : (m : Int) < (n : Int) + 1 := by omega
                      have hml : m < L.length := by have := HL.out; omega
                      have z := K3.out.cell hml
                      rw [HQ.out m hlt2] at z
                      clear hml
                      go_wp2_with fail
                      go_roundw
                      case rel => exact ⟨m + 1, by omega, by go_num, trivial⟩
                      case measure => simp [Go.RowKit.intOf]; omega
                    · have d3 : decide ((m : Int) ≤ (n : Int)) = false := by simp; omega
                      go_wp2_with fail
                      have B3 := HB.out.trans (Off.bo O3.out HB.out.size HB1.out.1 HB1.out.2.1)
                      go_roundw
                      case rel => exact ⟨j + 1, L, by omega, by go_num, HL.out, T3.out, K3.out, B3⟩
                      case measure => simp [Go.RowKit.intOf]; omega
            · have e1k : (k == 1) = false := by simpa using hk1
              obtain ⟨hr, hv⟩ := row_other (L := L) x hk0 hk1 hk2
              have HD := Lib.hid (do_at wr t wx hr hv)
              by_cases hx0 : 0 ≤ x
              · have e0 : decide (0 ≤ x) = true := by simpa using hx0
                obtain ⟨d, hd⟩ : ∃ d, decide (x ≤ (n : Int)) = d := ⟨_, rfl⟩
                clear t hb hk hL wx hk0 hk1 hk2 hr hv
                go_wp2_with (first
                  | (go_at_call 11; (with_reducible refine HD.out.mono ?_); rintro e w3 ⟨rfl, t3, o3⟩; have y0 := (off_cell o3 HS.out.1 HS.out.2 _).trans c0; have y1 := (off_cell o3 HS.out.1 HS.out.2 _).trans c1; have k3 := HK.out.off o3 HX.out)
                  | fail)
                have B3 := HB.out.trans (Off.bo o3 HB.out.size HB1.out.1 HB1.out.2.1)
                go_roundw
                case rel => exact ⟨j + 1, L, by omega, by go_num, HL.out, t3, k3, B3⟩
                case measure => simp [Go.RowKit.intOf]; omega
              · have e0 : decide (0 ≤ x) = false := by simpa using hx0
                clear t hb hk hL wx hk0 hk1 hk2 hr hv
                go_wp2_with (first
                  | (go_at_call 11; (with_reducible refine HD.out.mono ?_); rintro e w3 ⟨rfl, t3, o3⟩; have y0 := (off_cell o3 HS.out.1 HS.out.2 _).trans c0; have y1 := (off_cell o3 HS.out.1 HS.out.2 _).trans c1; have k3 := HK.out.off o3 HX.out)
                  | fail)
                have B3 := HB.out.trans (Off.bo o3 HB.out.size HB1.out.1 HB1.out.2.1)
                go_roundw
                case rel => exact ⟨j + 1, L, by omega, by go_num, HL.out, t3, k3, B3⟩
                case measure => simp [Go.RowKit.intOf]; omega
      · obtain rfl : j = l := by omega
        have d2 : decide ((j : Int) < (j : Int)) = false := by simp
        clear t hb hk hL hlt
        go_wp2_with fail
        go_loopw [13, 14] (fun cnt k wz => ∃ (q : Nat), q ≤ n + 1 ∧ cnt = .int .i64 (cntT L q : Int) ∧ k = .int .i64 (q : Int) ∧ Tin wz p b L ∧ BlkB wz h L ∧ Below w.heap.size w wz) (fun _ k _ => n + 1 - (Go.RowKit.intOf k).toNat)
        case atStart => exact ⟨0, by omega, rfl, rfl, HT.out, HK.out, HB.out⟩
        case round =>
          obtain ⟨q, hq, rfl, rfl, t5, k5, hb5⟩ := hrel
          have HB5 := Lib.hid hb5
          have HT5 := Lib.hid t5
          have HK5 := Lib.hid k5
          by_cases hlt : q ≤ n
          · have d4 : decide ((q : Int) ≤ (n : Int)) = true := by simpa using hlt
            have hwq : (Lit.int .i64 (q : Int)).wf = true := by simp [Lit.wf, IntKind.min, IntKind.max, IntKind.signed, IntKind.bits]; omega
            have hH0 : Below wr.heap.size wr wr.drew := (Below.refl _ _).drew
            have hc0 := hH0
            have H5 := has_any (q : Int) wr.drew (t5.call hH0) hwq
            have hcell := k5.cell (j := q) (by have := HL.out; omega)
            have hhl := k5.lt
            have hs := cnt_succ L q
            have hcq := cnt_le L q
            have j0 : (0 : Int) ≤ (q : Int) := by omega
            have j1 : (q : Int) < (n : Int) + 1 := by omega
            cases hh : hasT L (q : Int)
            · rw [hh] at H5 hs hcell
              have hs' : cntT L (q + 1) = cntT L q := by simpa using hs
              have HCS := Lib.hid hs'
              have HH5 := Lib.hid H5
              have HCELL := Lib.hid (show ∀ wx : World, Below wr.heap.size wr wx → wx.cell? ⟨h, q, none⟩ = some (.bool false) ∧ Below wr.heap.size wr wx from fun wx hx => ⟨(hx.cell (p := ⟨h, q, none⟩) hhl).trans hcell, hx⟩)
              generalize cntT L q = cq at *
              clear t5 hb5 k5 H5 hs hs' hh hwq hcell hhl
              go_upto_region 35 with fail
              go_region_held3 (fun wx => wx.cell? ⟨h, q, none⟩ = some (.bool false) ∧ Below wr.heap.size wr wx) (with_reducible first | assumption | exact HCELL.out _ hH0 | exact HCELL.out _ hc1 | fail)
                (first
                | (go_at_call 13; (with_reducible refine HH5.out.mono ?_); rintro e w6 ⟨rfl, hb6⟩; have hc1 := bn hc0 hb6)
                | fail)
              all_goals
                have z6 := (HCELL.out _ hc1).1
                go_wp2
                go_roundw
                case rel => exact ⟨q + 1, by omega, by rw [HCS.out], by go_num, HT5.out.call hc1, HK5.out.call hc1, bt HB5.out HB5.out.size hc1⟩
                case measure => (simp [Go.RowKit.intOf]; omega)
            · rw [hh] at H5 hs hcell
              have hs' : cntT L (q + 1) = cntT L q + 1 := by simpa using hs
              have HCS := Lib.hid hs'
              have HH5 := Lib.hid H5
              have HCELL := Lib.hid (show ∀ wx : World, Below wr.heap.size wr wx → wx.cell? ⟨h, q, none⟩ = some (.bool true) ∧ Below wr.heap.size wr wx from fun wx hx => ⟨(hx.cell (p := ⟨h, q, none⟩) hhl).trans hcell, hx⟩)
              generalize cntT L q = cq at *
              clear t5 hb5 k5 H5 hs hs' hh hwq hcell hhl
              go_upto_region 35 with fail
              go_region_held3 (fun wx => wx.cell? ⟨h, q, none⟩ = some (.bool true) ∧ Below wr.heap.size wr wx) (with_reducible first | assumption | exact HCELL.out _ hH0 | exact HCELL.out _ hc1 | fail)
                (first
                | (go_at_call 13; (with_reducible refine HH5.out.mono ?_); rintro e w6 ⟨rfl, hb6⟩; have hc1 := bn hc0 hb6)
                | fail)
              all_goals
                have z6 := (HCELL.out _ hc1).1
                go_wp2
                go_roundw
                case rel => exact ⟨q + 1, by omega, by rw [HCS.out]; go_num, by go_num, HT5.out.call hc1, HK5.out.call hc1, bt HB5.out HB5.out.size hc1⟩
                case measure => (simp [Go.RowKit.intOf]; omega)
          · obtain rfl : q = n + 1 := by omega
            have d4 : decide (((n + 1 : Nat) : Int) ≤ (n : Int)) = false := by simp; omega
            obtain ⟨N, hN⟩ : ∃ N, (allT L).length = N := ⟨_, rfl⟩
            have hc0 : cntT L (n + 1) = N := by rw [← HL.out, cnt_all]; exact hN
            have HCt := Lib.hid (fun wx (tx : Tin wx p b L) => by have := tcount_any wx tx; rw [hN] at this; exact this)
            have HNeg := Lib.hid (fun wx (tx : Tin wx p b L) => by have := has_any (-1) wx tx rfl; rw [hasT_neg (by omega)] at this; exact this)
            have HFar := Lib.hid (fun wx (tx : Tin wx p b L) => by have := has_any ((n : Int) + 1) wx tx (by simp [Lit.wf, IntKind.min, IntKind.max, IntKind.signed, IntKind.bits]; omega); rw [hasT_far (by have := HL.out; omega)] at this; exact this)
            rw [hc0]
            clear t5 hb5 k5 hc0
            go_wp2_with (first
              | (go_at_call 18; (with_reducible refine (HCt.out _ HT5.out).mono ?_); rintro e w6 ⟨rfl, rfl⟩)
              | (go_at_call 13; (with_reducible refine (HNeg.out _ HT5.out).mono ?_); rintro e w7 ⟨rfl, hb7⟩; have HT7 := Lib.hid (HT5.out.call hb7))
              | (go_at_call 13; (with_reducible refine (HFar.out _ HT7.out).mono ?_); rintro e w8 ⟨rfl, hb8⟩)
              | (go_at_call 8; (with_reducible refine (works13_any _).mono ?_); rintro e w9 ⟨rfl, hb9⟩)
              | fail)
            go_ret
            exact ⟨rfl, bt HB5.out HB5.out.size (bn (bn hb7 hb8) hb9)⟩
end Go.Proofs.Ytnbofokdhkoglaa.tableOwn
