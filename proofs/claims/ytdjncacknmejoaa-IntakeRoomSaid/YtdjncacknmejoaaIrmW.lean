/-
  The statement IntakeRoom, walked: it answers true. Memory that was there stays. No condition.
-/
import Derived.Test.YtdjncacknmejoaaIwo
import Derived.Test.YtdjncacknmejoaaIar
namespace Go.Proofs.Ytdjncacknmejoaa.intakeRoom
set_option maxRecDepth 100000
open Go.RowKit Go.Proofs.Ytdjncacknmejoaa.Utf Go.Proofs.Ytdjncacknmejoaa.Enc Go.Proofs.Ytdjncacknmejoaa.Fr Go.Proofs.Ytdjncacknmejoaa.It

/-- Yes or no, and memory is as it was. -/
def SaysB (w : World) (e : Ending) (w' : World) : Prop := (∃ b : Bool, e = .returned (.bool b)) ∧ w = w'
theorem large_any (A : Option Addr) (n c : Nat) (F : Nat → Option Addr) (L C : Nat → Nat) (Z : Nat → List Nat) (w : World) (hP : Ps w w.heap.size A n F L C Z) (hn : n ≤ 9223372036854775807) :
    Calls Try.prog 9 #[.slice A n c] w (SaysB w) := by
  have HP := Lib.hid hP
  clear hP
  go_enter Try.func9, Try.ntmps9
  go_wp2
  go_loopw [3, 4] (fun s i wr => ∃ (j : Nat) (z : Int), j ≤ n ∧ i = .int .i64 (j : Int) ∧ s = .int .i64 z ∧ w = wr) (fun _ i _ => n - (intOf i).toNat)
  case atStart => exact ⟨0, 0, by omega, rfl, rfl, rfl⟩
  case round =>
    obtain ⟨j, z, hj, rfl, rfl, rfl⟩ := hrel
    by_cases hlt : j < n
    · obtain ⟨b, o, rfl, hb, hc, hl, hr⟩ := HP.out j hlt
      have d1 : decide ((j : Int) < (n : Int)) = true := by simp; omega
      have i0 : (0 : Int) ≤ (j : Int) := by omega
      have i1 : (j : Int) < (n : Int) := by omega
      have HJ := Lib.hid (show j + 1 ≤ n by omega)
      clear hr
      go_wp2
      go_roundw
      case rel => exact ⟨j + 1, _, HJ.out, by go_num, rfl, trivial⟩
      case measure => simp [intOf]; omega
    · obtain rfl : j = n := by omega
      have d1 : decide ((j : Int) < (j : Int)) = false := by simp
      go_wp2
      all_goals
        go_ret
        exact ⟨⟨_, rfl⟩, rfl⟩
/-- How much the intake holds, as its block says. -/
def heldN (w : World) (g : Nat) : Nat := match w.cell? ⟨g, 1, none⟩ with
  | some (.slice _ n _) => n
  | _ => 0
theorem heldN_in {w : World} {g h : Nat} {s : St} (i : In w g h s) : heldN w g = s.held.length := by
  unfold heldN
  rw [i.cells.2.1]
  rcases hb : s.bad with _ | _
  · rw [hv_ok hb]
  · rw [hv_bad hb, i.ok.bad hb]
    rfl
set_option maxHeartbeats 4000000 in
theorem walk (size : Nat) (A : Option Addr) (n c : Nat) (F : Nat → Option Addr) (L C : Nat → Nat) (Z : Nat → List Nat) (w : World) (hs : size < 65536) (hP : Ps w w.heap.size A n F L C Z) (hn : n ≤ 9223372036854775807) (hL : ∀ r, r < n → C r ≤ 9223372036854775807) :
    Calls Try.prog 6 #[.int .u16 (size : Int), .slice A n c] w fun e w' => e = .returned (.bool true) ∧ Below w.heap.size w w' := by
  obtain ⟨q, hq⟩ : ∃ q, size % 3585 = q := ⟨_, rfl⟩
  have K1 : (size : Int).tmod 3585 = (q : Int) := by rw [← hq]; exact Int.ofNat_tmod size 3585
  have K2 : (size : Int) % 3585 = (q : Int) := by omega
  have hq2 : q < 3585 := by omega
  obtain ⟨M, hM⟩ : ∃ M, 512 + q = M := ⟨_, rfl⟩
  have K3 : IntKind.i64.wrap (512 + (q : Int)) = (M : Int) := by rw [show 512 + (q : Int) = (M : Int) by omega]; exact IntWalk.i64_in _ (by omega)
  have K4 : IntKind.u32.wrap (M : Int) = (M : Int) := by simp only [IntKind.wrap, IntKind.bits, IntKind.signed]; simp; omega
  have K5 : 512 + (q : Int) = (M : Int) := by omega
  have hM1 : 512 ≤ M := by omega
  have hM2 : M ≤ 4096 := by omega
  have HP := Lib.hid hP
  have HL := Lib.hid hL
  clear hq hM hP hL
  go_enter Try.func6, Try.ntmps6
  go_wp2_with fail
  (with_reducible refine (large_any _ _ _ _ _ _ _ _ HP.out hn).mono ?_)
  rintro e w1 ⟨⟨lg, rfl⟩, rfl⟩
  cases lg
  · have HNEW := Lib.hid (new_yes M w hM1 hM2)
    go_wp2_with fail
    (with_reducible refine HNEW.out.mono ?_)
    rintro e w2 ⟨g, h, rfl, hi2, hg, hh, hb2⟩
    have HI2 := Lib.hid hi2
    have HB2 := Lib.hid hb2
    have HG := Lib.hid hg
    have HH := Lib.hid hh
    clear hi2 hb2 hg hh HNEW
    go_wp2_with fail
    go_loopw [8, 9] (fun bd i wr => ∃ (j : Nat) (s : St), j ≤ n ∧ i = .int .i64 (j : Int) ∧ bd = .bool s.bad ∧ s.most = M ∧ In wr g h s ∧ Below w.heap.size w wr) (fun _ i _ => n - (intOf i).toNat)
    case atStart => exact ⟨0, _, by omega, rfl, rfl, rfl, HI2.out, HB2.out⟩
    case round =>
      obtain ⟨j, s, hj, rfl, rfl, hsm, hi, hb⟩ := hrel
      have HI := Lib.hid hi
      have HB := Lib.hid hb
      by_cases hlt : j < n
      · obtain ⟨b, o, rfl, hbo, hc, hlc, hr⟩ := HP.out j hlt
        have hcj := (hb.cell (p := ⟨b, o + j, none⟩) hbo).trans hc
        have hCj := HL.out j hlt
        have HRD := Lib.hid hr
        have d1 : decide ((j : Int) < (n : Int)) = true := by simp; omega
        have i0 : (0 : Int) ≤ (j : Int) := by omega
        have i1 : (j : Int) < (n : Int) := by omega
        have HJ := Lib.hid (show j + 1 ≤ n by omega)
        clear hi hb hc hr
        obtain ⟨Lj, hLj⟩ : ∃ Lj, L j = Lj := ⟨_, rfl⟩
        obtain ⟨Cj, hCj'⟩ : ∃ Cj, C j = Cj := ⟨_, rfl⟩
        rw [hLj, hCj'] at hcj hlc
        rw [hLj] at HRD
        rw [hCj'] at hCj
        clear hLj hCj'
        obtain ⟨R, hR⟩ : ∃ R, room s = R := ⟨_, rfl⟩
        obtain ⟨H, hH⟩ : ∃ H, s.held.length = H := ⟨_, rfl⟩
        obtain ⟨T, hT⟩ : ∃ T, min Lj R = T := ⟨_, rfl⟩
        have hm : (R < Lj ∧ R = T) ∨ (¬ R < Lj ∧ Lj = T) := by omega
        have hRR : R ≤ 4104 ∧ H ≤ 4104 := by
          have h1 := HI.out.ok.len
          have h2 := room_le HI.out.ok
          omega
        obtain ⟨hR4, hH4⟩ := hRR
        have HRM := Lib.hid (room_s HI.out (R : Int) (by rw [hR]))
        have HHD : Hid (∀ wx, Below wr.heap.size wr wx → Calls Try.prog 20 #[.pointer (some ⟨g, 0, none⟩)] wx (fun e w' => e = .returned (.int .i64 (H : Int)) ∧ wx = w')) := Lib.hid fun wx hb => held_s (HI.out.call hb) (H : Int) (by rw [hH])
        have HPT : Hid (∀ wx, Below wr.heap.size wr wx → Calls Try.prog 14 #[.pointer (some ⟨g, 0, none⟩), .slice (F j) Lj Cj] wx (GivesI (.int .i64 (T : Int)) g h (put s (Z j)) wx)) := Lib.hid fun wx hb => put_s (HI.out.call hb) (HRD.out.call (bn HB.out hb)) hlc (by omega) (put s (Z j)) (T : Int) rfl (by rw [hR, hT])
        have hlp : (put s (Z j)).held.length = H + T := by
          show (s.held ++ (Z j).take (room s)).length = H + T
          have := HRD.out.len
          rw [List.length_append, List.length_take, hR]
          omega
        have HLP := Lib.hid hlp
        have HGD : Hid (w.heap.size ≤ g ∧ w.heap.size ≤ h) := Lib.hid ⟨HG.out, HH.out⟩
        have hcase : (s.bad = true ∧ R = 0 ∧ H = 0) ∨ (s.bad = false ∧ H + R = M + 8) := by
          have h1 := HI.out.ok.len
          rcases hb : s.bad with _ | _
          · refine .inr ⟨rfl, ?_⟩
            rw [← hR, ← hH]
            unfold room
            rw [hb]
            simp
            omega
          · refine .inl ⟨rfl, ?_, ?_⟩
            · rw [← hR]; unfold room; rw [hb]; rfl
            · rw [← hH, HI.out.ok.bad hb]; rfl
        have hTR : T ≤ R := by omega
        have hbr : b < wr.heap.size := Nat.lt_of_lt_of_le hbo HB.out.size
        have hbx : ¬ Xi g h b := fun e => by have := HG.out; have := HH.out; rcases e with e | e <;> omega
        clear hR hH hT hlp
        obtain ⟨S, hS⟩ : ∃ S, M + 8 = S := ⟨_, rfl⟩
        have hSi : (M : Int) + 8 = (S : Int) := by omega
        have hSw : IntKind.i64.wrap ((M : Int) + 8) = (S : Int) := by rw [hSi]; exact IntWalk.i64_in _ (by omega)
        obtain ⟨H2, hH2⟩ : ∃ H2, H + T = H2 := ⟨_, rfl⟩
        have hHi : (H : Int) + (T : Int) = (H2 : Int) := by omega
        have hHw : IntKind.i64.wrap ((H : Int) + (T : Int)) = (H2 : Int) := by rw [hHi]; exact IntWalk.i64_in _ (by omega)
        rw [hH2] at HLP
        rcases hcase with ⟨hbd, rfl, rfl⟩ | ⟨hbd, hHR⟩
        · have g2 : decide ((S : Int) < (H2 : Int)) = false := by simp; omega
          rw [hbd]
          rcases hm with ⟨hmt, rfl⟩ | ⟨hmt, rfl⟩
          · have hmi : (0 : Int) < (Lj : Int) := by omega
            go_wp2_with (first
              | (go_at_call 21; (with_reducible refine HRM.out.mono ?_); rintro e w3 ⟨rfl, hb3⟩; have HB3 := Lib.hid (bn HB.out hb3); have hcj3 := (hb3.cell (p := ⟨b, o + j, none⟩) hbr).trans hcj)
              | (go_at_call 20; (with_reducible refine (HHD.out _ hb3).mono ?_); rintro e w4 ⟨rfl, rfl⟩)
              | (go_at_call 14; (with_reducible refine (HPT.out _ hb3).mono ?_); rintro e w5 ⟨rfl, hi5, ho5⟩; have hcj5 := (World.cell?_of_block (a := ⟨b, o + j, none⟩) (ho5.block b (Nat.lt_of_lt_of_le hbo HB3.out.size) hbx)).trans hcj3)
              | (go_at_call 20; (with_reducible refine (held_s hi5 (H2 : Int) (by rw [HLP.out])).mono ?_); rintro e w6 ⟨rfl, rfl⟩)
              | fail)
            have HI5 := Lib.hid hi5
            have HB5 := Lib.hid (offB HB3.out HGD.out.1 HGD.out.2 ho5)
            clear hi5 ho5 hcj3 hcj5 hcj hb3
            try clear g2
            try clear hTR
            try clear hHR
            try clear hqi hqw
            try clear hHi hHw
            try clear hmi
            try clear hmt
            try clear hH2
            try generalize decide (S < H2) = bq
            go_loopw [8] (fun bd wx => ∃ s' : St, bd = .bool s'.bad ∧ s'.most = M ∧ In wx g h s' ∧ Below w.heap.size w wx) (fun _ wx => heldN wx g)
            case atStart => exact ⟨put s (Z j), (by show _ = Value.bool s.bad; rw [hbd]), hsm, HI5.out, HB5.out⟩
            case round =>
              obtain ⟨s', rfl, hsm', hi, hb⟩ := hrel
              rename World => wx
              have HME := Lib.hid (heldN_in hi)
              have HIX := Lib.hid hi
              have HBX := Lib.hid hb
              have HSM := Lib.hid hsm'
              clear hi hb hsm'
              rcases hbs : s'.bad with _ | _
              · rcases kind_cases s' with k0 | k1 | k2 | k3
                · have hR0 := room_none HIX.out.ok k0
                  obtain ⟨R', hR'⟩ : ∃ R', room s' = R' := ⟨_, rfl⟩
                  rw [hR'] at hR0
                  have e0 : ((R' : Int) == 0) = false := by simp; omega
                  have HRX := Lib.hid hR'
                  have HBS := Lib.hid hbs
                  have HN := Lib.hid (next_at HIX.out 0 0 0 [] s' (by rw [k0]; rfl) (chN0 (by omega)) (bdN0 (by omega)) rfl (next_none k0))
                  clear hR' hbs k0 hR0
                  go_wp2_with (first
                    | (go_at_call 17; (with_reducible refine HN.out.mono ?_); rintro e w7 ⟨A7, c7, rfl, _, hi7, ho7⟩; have hi7' := hi7.call (ba (Below.refl _ _) (.cells #[.int .u16 0, .slice A7 0 c7] 39)); have HB7 := Lib.hid (ba (offB HBX.out HGD.out.1 HGD.out.2 ho7) (.cells #[.int .u16 0, .slice A7 0 c7] 39)))
                    | (go_at_call 21; (with_reducible refine (room_s hi7' (R' : Int) (by rw [HRX.out])).mono ?_); rintro e w8 ⟨rfl, hb8⟩; have HB8 := Lib.hid (bn HB7.out hb8); have HI8 := Lib.hid (hi7'.call hb8))
                    | fail)
                  go_roundw
                  case rel => exact ⟨j + 1, s', HJ.out, by go_num, by rw [HBS.out], HSM.out, HI8.out, HB8.out⟩
                  case measure => simp [intOf]; omega
                · have hnn := next_on (Or.inl k1)
                  have HNN := Lib.hid hnn
                  have HN := Lib.hid (next_at HIX.out 1 0 0 [] (next s') (by rw [k1]; rfl) (chN0 (by omega)) (bdN0 (by omega)) rfl rfl)
                  clear hbs k1 hnn
                  go_wp2_with (first
                    | (go_at_call 17; (with_reducible refine HN.out.mono ?_); rintro e w7 ⟨A7, c7, rfl, _, hi7, ho7⟩; have HI7 := Lib.hid (hi7.call (ba (Below.refl _ _) (.cells #[.int .u16 0, .slice A7 0 c7] 39))); have HB7 := Lib.hid (ba (offB HBX.out HGD.out.1 HGD.out.2 ho7) (.cells #[.int .u16 0, .slice A7 0 c7] 39)))
                    | fail)
                  go_roundw
                  case rel => exact ⟨next s', by rw [HNN.out.1], by rw [next_most]; exact HSM.out, HI7.out, HB7.out⟩
                  case measure => rw [heldN_in HI7.out, HME.out]; have := HNN.out.2; omega
                · have hnn := next_on (Or.inr k2)
                  have HNN := Lib.hid hnn
                  obtain ⟨ch, hch⟩ : ∃ ch, chN s' = ch := ⟨_, rfl⟩
                  obtain ⟨bl, hbl⟩ : ∃ bl, (bdN s').length = bl := ⟨_, rfl⟩
                  have HN := Lib.hid (next_at HIX.out 2 (ch : Int) bl (bdN s') (next s') (by rw [k2]; rfl) (by rw [hch]) rfl hbl rfl)
                  clear hbs k2 hnn hch hbl
                  go_wp2_with (first
                    | (go_at_call 17; (with_reducible refine HN.out.mono ?_); rintro e w7 ⟨A7, c7, rfl, _, hi7, ho7⟩; have HI7 := Lib.hid (hi7.call (ba (Below.refl _ _) (.cells #[.int .u16 (ch : Int), .slice A7 bl c7] 39))); have HB7 := Lib.hid (ba (offB HBX.out HGD.out.1 HGD.out.2 ho7) (.cells #[.int .u16 (ch : Int), .slice A7 bl c7] 39)))
                    | fail)
                  go_roundw
                  case rel => exact ⟨next s', by rw [HNN.out.1], by rw [next_most]; exact HSM.out, HI7.out, HB7.out⟩
                  case measure => rw [heldN_in HI7.out, HME.out]; have := HNN.out.2; omega
                · have HN := Lib.hid (next_at HIX.out 3 0 0 [] { s' with held := [], bad := true } (by rw [k3]; rfl) (chN0 (by omega)) (bdN0 (by omega)) rfl (next_bad k3))
                  clear hbs k3
                  go_wp2_with (first
                    | (go_at_call 17; (with_reducible refine HN.out.mono ?_); rintro e w7 ⟨A7, c7, rfl, _, hi7, ho7⟩; have HI7 := Lib.hid (hi7.call (ba (Below.refl _ _) (.cells #[.int .u16 0, .slice A7 0 c7] 39))); have HB7 := Lib.hid (ba (offB HBX.out HGD.out.1 HGD.out.2 ho7) (.cells #[.int .u16 0, .slice A7 0 c7] 39)))
                    | fail)
                  go_roundw
                  case rel => exact ⟨j + 1, { s' with held := [], bad := true }, HJ.out, by go_num, rfl, HSM.out, HI7.out, HB7.out⟩
                  case measure => simp [intOf]; omega
              · have k3 := kind_bad hbs
                have HN := Lib.hid (next_at HIX.out 3 0 0 [] { s' with held := [], bad := true } (by rw [k3]; rfl) (chN0 (by omega)) (bdN0 (by omega)) rfl (next_bad k3))
                clear hbs k3
                go_wp2_with (first
                  | (go_at_call 17; (with_reducible refine HN.out.mono ?_); rintro e w7 ⟨A7, c7, rfl, _, hi7, ho7⟩; have HI7 := Lib.hid (hi7.call (ba (Below.refl _ _) (.cells #[.int .u16 0, .slice A7 0 c7] 39))); have HB7 := Lib.hid (ba (offB HBX.out HGD.out.1 HGD.out.2 ho7) (.cells #[.int .u16 0, .slice A7 0 c7] 39)))
                  | fail)
                go_roundw
                case rel => exact ⟨j + 1, { s' with held := [], bad := true }, HJ.out, by go_num, rfl, HSM.out, HI7.out, HB7.out⟩
                case measure => simp [intOf]; omega
          · obtain rfl : Lj = 0 := by omega
            go_wp2_with (first
              | (go_at_call 21; (with_reducible refine HRM.out.mono ?_); rintro e w3 ⟨rfl, hb3⟩; have HB3 := Lib.hid (bn HB.out hb3); have hcj3 := (hb3.cell (p := ⟨b, o + j, none⟩) hbr).trans hcj)
              | (go_at_call 20; (with_reducible refine (HHD.out _ hb3).mono ?_); rintro e w4 ⟨rfl, rfl⟩)
              | (go_at_call 14; (with_reducible refine (HPT.out _ hb3).mono ?_); rintro e w5 ⟨rfl, hi5, ho5⟩; have hcj5 := (World.cell?_of_block (a := ⟨b, o + j, none⟩) (ho5.block b (Nat.lt_of_lt_of_le hbo HB3.out.size) hbx)).trans hcj3)
              | (go_at_call 20; (with_reducible refine (held_s hi5 (H2 : Int) (by rw [HLP.out])).mono ?_); rintro e w6 ⟨rfl, rfl⟩)
              | fail)
            have HI5 := Lib.hid hi5
            have HB5 := Lib.hid (offB HB3.out HGD.out.1 HGD.out.2 ho5)
            clear hi5 ho5 hcj3 hcj5 hcj hb3
            try clear g2
            try clear hTR
            try clear hHR
            try clear hqi hqw
            try clear hHi hHw
            try clear hmi
            try clear hmt
            try clear hH2
            try generalize decide (S < H2) = bq
            go_loopw [8] (fun bd wx => ∃ s' : St, bd = .bool s'.bad ∧ s'.most = M ∧ In wx g h s' ∧ Below w.heap.size w wx) (fun _ wx => heldN wx g)
            case atStart => exact ⟨put s (Z j), (by show _ = Value.bool s.bad; rw [hbd]), hsm, HI5.out, HB5.out⟩
            case round =>
              obtain ⟨s', rfl, hsm', hi, hb⟩ := hrel
              rename World => wx
              have HME := Lib.hid (heldN_in hi)
              have HIX := Lib.hid hi
              have HBX := Lib.hid hb
              have HSM := Lib.hid hsm'
              clear hi hb hsm'
              rcases hbs : s'.bad with _ | _
              · rcases kind_cases s' with k0 | k1 | k2 | k3
                · have hR0 := room_none HIX.out.ok k0
                  obtain ⟨R', hR'⟩ : ∃ R', room s' = R' := ⟨_, rfl⟩
                  rw [hR'] at hR0
                  have e0 : ((R' : Int) == 0) = false := by simp; omega
                  have HRX := Lib.hid hR'
                  have HBS := Lib.hid hbs
                  have HN := Lib.hid (next_at HIX.out 0 0 0 [] s' (by rw [k0]; rfl) (chN0 (by omega)) (bdN0 (by omega)) rfl (next_none k0))
                  clear hR' hbs k0 hR0
                  go_wp2_with (first
                    | (go_at_call 17; (with_reducible refine HN.out.mono ?_); rintro e w7 ⟨A7, c7, rfl, _, hi7, ho7⟩; have hi7' := hi7.call (ba (Below.refl _ _) (.cells #[.int .u16 0, .slice A7 0 c7] 39)); have HB7 := Lib.hid (ba (offB HBX.out HGD.out.1 HGD.out.2 ho7) (.cells #[.int .u16 0, .slice A7 0 c7] 39)))
                    | (go_at_call 21; (with_reducible refine (room_s hi7' (R' : Int) (by rw [HRX.out])).mono ?_); rintro e w8 ⟨rfl, hb8⟩; have HB8 := Lib.hid (bn HB7.out hb8); have HI8 := Lib.hid (hi7'.call hb8))
                    | fail)
                  go_roundw
                  case rel => exact ⟨j + 1, s', HJ.out, by go_num, by rw [HBS.out], HSM.out, HI8.out, HB8.out⟩
                  case measure => simp [intOf]; omega
                · have hnn := next_on (Or.inl k1)
                  have HNN := Lib.hid hnn
                  have HN := Lib.hid (next_at HIX.out 1 0 0 [] (next s') (by rw [k1]; rfl) (chN0 (by omega)) (bdN0 (by omega)) rfl rfl)
                  clear hbs k1 hnn
                  go_wp2_with (first
                    | (go_at_call 17; (with_reducible refine HN.out.mono ?_); rintro e w7 ⟨A7, c7, rfl, _, hi7, ho7⟩; have HI7 := Lib.hid (hi7.call (ba (Below.refl _ _) (.cells #[.int .u16 0, .slice A7 0 c7] 39))); have HB7 := Lib.hid (ba (offB HBX.out HGD.out.1 HGD.out.2 ho7) (.cells #[.int .u16 0, .slice A7 0 c7] 39)))
                    | fail)
                  go_roundw
                  case rel => exact ⟨next s', by rw [HNN.out.1], by rw [next_most]; exact HSM.out, HI7.out, HB7.out⟩
                  case measure => rw [heldN_in HI7.out, HME.out]; have := HNN.out.2; omega
                · have hnn := next_on (Or.inr k2)
                  have HNN := Lib.hid hnn
                  obtain ⟨ch, hch⟩ : ∃ ch, chN s' = ch := ⟨_, rfl⟩
                  obtain ⟨bl, hbl⟩ : ∃ bl, (bdN s').length = bl := ⟨_, rfl⟩
                  have HN := Lib.hid (next_at HIX.out 2 (ch : Int) bl (bdN s') (next s') (by rw [k2]; rfl) (by rw [hch]) rfl hbl rfl)
                  clear hbs k2 hnn hch hbl
                  go_wp2_with (first
                    | (go_at_call 17; (with_reducible refine HN.out.mono ?_); rintro e w7 ⟨A7, c7, rfl, _, hi7, ho7⟩; have HI7 := Lib.hid (hi7.call (ba (Below.refl _ _) (.cells #[.int .u16 (ch : Int), .slice A7 bl c7] 39))); have HB7 := Lib.hid (ba (offB HBX.out HGD.out.1 HGD.out.2 ho7) (.cells #[.int .u16 (ch : Int), .slice A7 bl c7] 39)))
                    | fail)
                  go_roundw
                  case rel => exact ⟨next s', by rw [HNN.out.1], by rw [next_most]; exact HSM.out, HI7.out, HB7.out⟩
                  case measure => rw [heldN_in HI7.out, HME.out]; have := HNN.out.2; omega
                · have HN := Lib.hid (next_at HIX.out 3 0 0 [] { s' with held := [], bad := true } (by rw [k3]; rfl) (chN0 (by omega)) (bdN0 (by omega)) rfl (next_bad k3))
                  clear hbs k3
                  go_wp2_with (first
                    | (go_at_call 17; (with_reducible refine HN.out.mono ?_); rintro e w7 ⟨A7, c7, rfl, _, hi7, ho7⟩; have HI7 := Lib.hid (hi7.call (ba (Below.refl _ _) (.cells #[.int .u16 0, .slice A7 0 c7] 39))); have HB7 := Lib.hid (ba (offB HBX.out HGD.out.1 HGD.out.2 ho7) (.cells #[.int .u16 0, .slice A7 0 c7] 39)))
                    | fail)
                  go_roundw
                  case rel => exact ⟨j + 1, { s' with held := [], bad := true }, HJ.out, by go_num, rfl, HSM.out, HI7.out, HB7.out⟩
                  case measure => simp [intOf]; omega
              · have k3 := kind_bad hbs
                have HN := Lib.hid (next_at HIX.out 3 0 0 [] { s' with held := [], bad := true } (by rw [k3]; rfl) (chN0 (by omega)) (bdN0 (by omega)) rfl (next_bad k3))
                clear hbs k3
                go_wp2_with (first
                  | (go_at_call 17; (with_reducible refine HN.out.mono ?_); rintro e w7 ⟨A7, c7, rfl, _, hi7, ho7⟩; have HI7 := Lib.hid (hi7.call (ba (Below.refl _ _) (.cells #[.int .u16 0, .slice A7 0 c7] 39))); have HB7 := Lib.hid (ba (offB HBX.out HGD.out.1 HGD.out.2 ho7) (.cells #[.int .u16 0, .slice A7 0 c7] 39)))
                  | fail)
                go_roundw
                case rel => exact ⟨j + 1, { s' with held := [], bad := true }, HJ.out, by go_num, rfl, HSM.out, HI7.out, HB7.out⟩
                case measure => simp [intOf]; omega
        · have hqi : (H : Int) + (R : Int) = (S : Int) := by omega
          have hqw : IntKind.i64.wrap ((H : Int) + (R : Int)) = (S : Int) := by rw [hqi]; exact IntWalk.i64_in _ (by omega)
          have g2 : decide ((S : Int) < (H2 : Int)) = false := by simp; omega
          rw [hbd]
          rcases hm with ⟨hmt, rfl⟩ | ⟨hmt, rfl⟩
          · have hmi : (R : Int) < (Lj : Int) := by omega
            go_wp2_with (first
              | (go_at_call 21; (with_reducible refine HRM.out.mono ?_); rintro e w3 ⟨rfl, hb3⟩; have HB3 := Lib.hid (bn HB.out hb3); have hcj3 := (hb3.cell (p := ⟨b, o + j, none⟩) hbr).trans hcj)
              | (go_at_call 20; (with_reducible refine (HHD.out _ hb3).mono ?_); rintro e w4 ⟨rfl, rfl⟩)
              | (go_at_call 14; (with_reducible refine (HPT.out _ hb3).mono ?_); rintro e w5 ⟨rfl, hi5, ho5⟩; have hcj5 := (World.cell?_of_block (a := ⟨b, o + j, none⟩) (ho5.block b (Nat.lt_of_lt_of_le hbo HB3.out.size) hbx)).trans hcj3)
              | (go_at_call 20; (with_reducible refine (held_s hi5 (H2 : Int) (by rw [HLP.out])).mono ?_); rintro e w6 ⟨rfl, rfl⟩)
              | fail)
            have HI5 := Lib.hid hi5
            have HB5 := Lib.hid (offB HB3.out HGD.out.1 HGD.out.2 ho5)
            clear hi5 ho5 hcj3 hcj5 hcj hb3
            try clear g2
            try clear hTR
            try clear hHR
            try clear hqi hqw
            try clear hHi hHw
            try clear hmi
            try clear hmt
            try clear hH2
            try generalize decide (S < H2) = bq
            go_loopw [8] (fun bd wx => ∃ s' : St, bd = .bool s'.bad ∧ s'.most = M ∧ In wx g h s' ∧ Below w.heap.size w wx) (fun _ wx => heldN wx g)
            case atStart => exact ⟨put s (Z j), (by show _ = Value.bool s.bad; rw [hbd]), hsm, HI5.out, HB5.out⟩
            case round =>
              obtain ⟨s', rfl, hsm', hi, hb⟩ := hrel
              rename World => wx
              have HME := Lib.hid (heldN_in hi)
              have HIX := Lib.hid hi
              have HBX := Lib.hid hb
              have HSM := Lib.hid hsm'
              clear hi hb hsm'
              rcases hbs : s'.bad with _ | _
              · rcases kind_cases s' with k0 | k1 | k2 | k3
                · have hR0 := room_none HIX.out.ok k0
                  obtain ⟨R', hR'⟩ : ∃ R', room s' = R' := ⟨_, rfl⟩
                  rw [hR'] at hR0
                  have e0 : ((R' : Int) == 0) = false := by simp; omega
                  have HRX := Lib.hid hR'
                  have HBS := Lib.hid hbs
                  have HN := Lib.hid (next_at HIX.out 0 0 0 [] s' (by rw [k0]; rfl) (chN0 (by omega)) (bdN0 (by omega)) rfl (next_none k0))
                  clear hR' hbs k0 hR0
                  go_wp2_with (first
                    | (go_at_call 17; (with_reducible refine HN.out.mono ?_); rintro e w7 ⟨A7, c7, rfl, _, hi7, ho7⟩; have hi7' := hi7.call (ba (Below.refl _ _) (.cells #[.int .u16 0, .slice A7 0 c7] 39)); have HB7 := Lib.hid (ba (offB HBX.out HGD.out.1 HGD.out.2 ho7) (.cells #[.int .u16 0, .slice A7 0 c7] 39)))
                    | (go_at_call 21; (with_reducible refine (room_s hi7' (R' : Int) (by rw [HRX.out])).mono ?_); rintro e w8 ⟨rfl, hb8⟩; have HB8 := Lib.hid (bn HB7.out hb8); have HI8 := Lib.hid (hi7'.call hb8))
                    | fail)
                  go_roundw
                  case rel => exact ⟨j + 1, s', HJ.out, by go_num, by rw [HBS.out], HSM.out, HI8.out, HB8.out⟩
                  case measure => simp [intOf]; omega
                · have hnn := next_on (Or.inl k1)
                  have HNN := Lib.hid hnn
                  have HN := Lib.hid (next_at HIX.out 1 0 0 [] (next s') (by rw [k1]; rfl) (chN0 (by omega)) (bdN0 (by omega)) rfl rfl)
                  clear hbs k1 hnn
                  go_wp2_with (first
                    | (go_at_call 17; (with_reducible refine HN.out.mono ?_); rintro e w7 ⟨A7, c7, rfl, _, hi7, ho7⟩; have HI7 := Lib.hid (hi7.call (ba (Below.refl _ _) (.cells #[.int .u16 0, .slice A7 0 c7] 39))); have HB7 := Lib.hid (ba (offB HBX.out HGD.out.1 HGD.out.2 ho7) (.cells #[.int .u16 0, .slice A7 0 c7] 39)))
                    | fail)
                  go_roundw
                  case rel => exact ⟨next s', by rw [HNN.out.1], by rw [next_most]; exact HSM.out, HI7.out, HB7.out⟩
                  case measure => rw [heldN_in HI7.out, HME.out]; have := HNN.out.2; omega
                · have hnn := next_on (Or.inr k2)
                  have HNN := Lib.hid hnn
                  obtain ⟨ch, hch⟩ : ∃ ch, chN s' = ch := ⟨_, rfl⟩
                  obtain ⟨bl, hbl⟩ : ∃ bl, (bdN s').length = bl := ⟨_, rfl⟩
                  have HN := Lib.hid (next_at HIX.out 2 (ch : Int) bl (bdN s') (next s') (by rw [k2]; rfl) (by rw [hch]) rfl hbl rfl)
                  clear hbs k2 hnn hch hbl
                  go_wp2_with (first
                    | (go_at_call 17; (with_reducible refine HN.out.mono ?_); rintro e w7 ⟨A7, c7, rfl, _, hi7, ho7⟩; have HI7 := Lib.hid (hi7.call (ba (Below.refl _ _) (.cells #[.int .u16 (ch : Int), .slice A7 bl c7] 39))); have HB7 := Lib.hid (ba (offB HBX.out HGD.out.1 HGD.out.2 ho7) (.cells #[.int .u16 (ch : Int), .slice A7 bl c7] 39)))
                    | fail)
                  go_roundw
                  case rel => exact ⟨next s', by rw [HNN.out.1], by rw [next_most]; exact HSM.out, HI7.out, HB7.out⟩
                  case measure => rw [heldN_in HI7.out, HME.out]; have := HNN.out.2; omega
                · have HN := Lib.hid (next_at HIX.out 3 0 0 [] { s' with held := [], bad := true } (by rw [k3]; rfl) (chN0 (by omega)) (bdN0 (by omega)) rfl (next_bad k3))
                  clear hbs k3
                  go_wp2_with (first
                    | (go_at_call 17; (with_reducible refine HN.out.mono ?_); rintro e w7 ⟨A7, c7, rfl, _, hi7, ho7⟩; have HI7 := Lib.hid (hi7.call (ba (Below.refl _ _) (.cells #[.int .u16 0, .slice A7 0 c7] 39))); have HB7 := Lib.hid (ba (offB HBX.out HGD.out.1 HGD.out.2 ho7) (.cells #[.int .u16 0, .slice A7 0 c7] 39)))
                    | fail)
                  go_roundw
                  case rel => exact ⟨j + 1, { s' with held := [], bad := true }, HJ.out, by go_num, rfl, HSM.out, HI7.out, HB7.out⟩
                  case measure => simp [intOf]; omega
              · have k3 := kind_bad hbs
                have HN := Lib.hid (next_at HIX.out 3 0 0 [] { s' with held := [], bad := true } (by rw [k3]; rfl) (chN0 (by omega)) (bdN0 (by omega)) rfl (next_bad k3))
                clear hbs k3
                go_wp2_with (first
                  | (go_at_call 17; (with_reducible refine HN.out.mono ?_); rintro e w7 ⟨A7, c7, rfl, _, hi7, ho7⟩; have HI7 := Lib.hid (hi7.call (ba (Below.refl _ _) (.cells #[.int .u16 0, .slice A7 0 c7] 39))); have HB7 := Lib.hid (ba (offB HBX.out HGD.out.1 HGD.out.2 ho7) (.cells #[.int .u16 0, .slice A7 0 c7] 39)))
                  | fail)
                go_roundw
                case rel => exact ⟨j + 1, { s' with held := [], bad := true }, HJ.out, by go_num, rfl, HSM.out, HI7.out, HB7.out⟩
                case measure => simp [intOf]; omega
          · have hmi : ¬ (R : Int) < (Lj : Int) := by omega
            go_wp2_with (first
              | (go_at_call 21; (with_reducible refine HRM.out.mono ?_); rintro e w3 ⟨rfl, hb3⟩; have HB3 := Lib.hid (bn HB.out hb3); have hcj3 := (hb3.cell (p := ⟨b, o + j, none⟩) hbr).trans hcj)
              | (go_at_call 20; (with_reducible refine (HHD.out _ hb3).mono ?_); rintro e w4 ⟨rfl, rfl⟩)
              | (go_at_call 14; (with_reducible refine (HPT.out _ hb3).mono ?_); rintro e w5 ⟨rfl, hi5, ho5⟩; have hcj5 := (World.cell?_of_block (a := ⟨b, o + j, none⟩) (ho5.block b (Nat.lt_of_lt_of_le hbo HB3.out.size) hbx)).trans hcj3)
              | (go_at_call 20; (with_reducible refine (held_s hi5 (H2 : Int) (by rw [HLP.out])).mono ?_); rintro e w6 ⟨rfl, rfl⟩)
              | fail)
            have HI5 := Lib.hid hi5
            have HB5 := Lib.hid (offB HB3.out HGD.out.1 HGD.out.2 ho5)
            clear hi5 ho5 hcj3 hcj5 hcj hb3
            try clear g2
            try clear hTR
            try clear hHR
            try clear hqi hqw
            try clear hHi hHw
            try clear hmi
            try clear hmt
            try clear hH2
            try generalize decide (S < H2) = bq
            go_loopw [8] (fun bd wx => ∃ s' : St, bd = .bool s'.bad ∧ s'.most = M ∧ In wx g h s' ∧ Below w.heap.size w wx) (fun _ wx => heldN wx g)
            case atStart => exact ⟨put s (Z j), (by show _ = Value.bool s.bad; rw [hbd]), hsm, HI5.out, HB5.out⟩
            case round =>
              obtain ⟨s', rfl, hsm', hi, hb⟩ := hrel
              rename World => wx
              have HME := Lib.hid (heldN_in hi)
              have HIX := Lib.hid hi
              have HBX := Lib.hid hb
              have HSM := Lib.hid hsm'
              clear hi hb hsm'
              rcases hbs : s'.bad with _ | _
              · rcases kind_cases s' with k0 | k1 | k2 | k3
                · have hR0 := room_none HIX.out.ok k0
                  obtain ⟨R', hR'⟩ : ∃ R', room s' = R' := ⟨_, rfl⟩
                  rw [hR'] at hR0
                  have e0 : ((R' : Int) == 0) = false := by simp; omega
                  have HRX := Lib.hid hR'
                  have HBS := Lib.hid hbs
                  have HN := Lib.hid (next_at HIX.out 0 0 0 [] s' (by rw [k0]; rfl) (chN0 (by omega)) (bdN0 (by omega)) rfl (next_none k0))
                  clear hR' hbs k0 hR0
                  go_wp2_with (first
                    | (go_at_call 17; (with_reducible refine HN.out.mono ?_); rintro e w7 ⟨A7, c7, rfl, _, hi7, ho7⟩; have hi7' := hi7.call (ba (Below.refl _ _) (.cells #[.int .u16 0, .slice A7 0 c7] 39)); have HB7 := Lib.hid (ba (offB HBX.out HGD.out.1 HGD.out.2 ho7) (.cells #[.int .u16 0, .slice A7 0 c7] 39)))
                    | (go_at_call 21; (with_reducible refine (room_s hi7' (R' : Int) (by rw [HRX.out])).mono ?_); rintro e w8 ⟨rfl, hb8⟩; have HB8 := Lib.hid (bn HB7.out hb8); have HI8 := Lib.hid (hi7'.call hb8))
                    | fail)
                  go_roundw
                  case rel => exact ⟨j + 1, s', HJ.out, by go_num, by rw [HBS.out], HSM.out, HI8.out, HB8.out⟩
                  case measure => simp [intOf]; omega
                · have hnn := next_on (Or.inl k1)
                  have HNN := Lib.hid hnn
                  have HN := Lib.hid (next_at HIX.out 1 0 0 [] (next s') (by rw [k1]; rfl) (chN0 (by omega)) (bdN0 (by omega)) rfl rfl)
                  clear hbs k1 hnn
                  go_wp2_with (first
                    | (go_at_call 17; (with_reducible refine HN.out.mono ?_); rintro e w7 ⟨A7, c7, rfl, _, hi7, ho7⟩; have HI7 := Lib.hid (hi7.call (ba (Below.refl _ _) (.cells #[.int .u16 0, .slice A7 0 c7] 39))); have HB7 := Lib.hid (ba (offB HBX.out HGD.out.1 HGD.out.2 ho7) (.cells #[.int .u16 0, .slice A7 0 c7] 39)))
                    | fail)
                  go_roundw
                  case rel => exact ⟨next s', by rw [HNN.out.1], by rw [next_most]; exact HSM.out, HI7.out, HB7.out⟩
                  case measure => rw [heldN_in HI7.out, HME.out]; have := HNN.out.2; omega
                · have hnn := next_on (Or.inr k2)
                  have HNN := Lib.hid hnn
                  obtain ⟨ch, hch⟩ : ∃ ch, chN s' = ch := ⟨_, rfl⟩
                  obtain ⟨bl, hbl⟩ : ∃ bl, (bdN s').length = bl := ⟨_, rfl⟩
                  have HN := Lib.hid (next_at HIX.out 2 (ch : Int) bl (bdN s') (next s') (by rw [k2]; rfl) (by rw [hch]) rfl hbl rfl)
                  clear hbs k2 hnn hch hbl
                  go_wp2_with (first
                    | (go_at_call 17; (with_reducible refine HN.out.mono ?_); rintro e w7 ⟨A7, c7, rfl, _, hi7, ho7⟩; have HI7 := Lib.hid (hi7.call (ba (Below.refl _ _) (.cells #[.int .u16 (ch : Int), .slice A7 bl c7] 39))); have HB7 := Lib.hid (ba (offB HBX.out HGD.out.1 HGD.out.2 ho7) (.cells #[.int .u16 (ch : Int), .slice A7 bl c7] 39)))
                    | fail)
                  go_roundw
                  case rel => exact ⟨next s', by rw [HNN.out.1], by rw [next_most]; exact HSM.out, HI7.out, HB7.out⟩
                  case measure => rw [heldN_in HI7.out, HME.out]; have := HNN.out.2; omega
                · have HN := Lib.hid (next_at HIX.out 3 0 0 [] { s' with held := [], bad := true } (by rw [k3]; rfl) (chN0 (by omega)) (bdN0 (by omega)) rfl (next_bad k3))
                  clear hbs k3
                  go_wp2_with (first
                    | (go_at_call 17; (with_reducible refine HN.out.mono ?_); rintro e w7 ⟨A7, c7, rfl, _, hi7, ho7⟩; have HI7 := Lib.hid (hi7.call (ba (Below.refl _ _) (.cells #[.int .u16 0, .slice A7 0 c7] 39))); have HB7 := Lib.hid (ba (offB HBX.out HGD.out.1 HGD.out.2 ho7) (.cells #[.int .u16 0, .slice A7 0 c7] 39)))
                    | fail)
                  go_roundw
                  case rel => exact ⟨j + 1, { s' with held := [], bad := true }, HJ.out, by go_num, rfl, HSM.out, HI7.out, HB7.out⟩
                  case measure => simp [intOf]; omega
              · have k3 := kind_bad hbs
                have HN := Lib.hid (next_at HIX.out 3 0 0 [] { s' with held := [], bad := true } (by rw [k3]; rfl) (chN0 (by omega)) (bdN0 (by omega)) rfl (next_bad k3))
                clear hbs k3
                go_wp2_with (first
                  | (go_at_call 17; (with_reducible refine HN.out.mono ?_); rintro e w7 ⟨A7, c7, rfl, _, hi7, ho7⟩; have HI7 := Lib.hid (hi7.call (ba (Below.refl _ _) (.cells #[.int .u16 0, .slice A7 0 c7] 39))); have HB7 := Lib.hid (ba (offB HBX.out HGD.out.1 HGD.out.2 ho7) (.cells #[.int .u16 0, .slice A7 0 c7] 39)))
                  | fail)
                go_roundw
                case rel => exact ⟨j + 1, { s' with held := [], bad := true }, HJ.out, by go_num, rfl, HSM.out, HI7.out, HB7.out⟩
                case measure => simp [intOf]; omega
      · obtain rfl : j = n := by omega
        have d1 : decide ((j : Int) < (j : Int)) = false := by simp
        clear hi hb
        go_wp2_with (first
          | (go_at_call 10; (with_reducible refine (works12_any _).mono ?_); rintro e w9 ⟨rfl, hb9⟩)
          | fail)
        go_ret
        exact ⟨rfl, bn HB.out hb9⟩
  · go_wp2_with (first
      | (go_at_call 10; (with_reducible refine (works12_any _).mono ?_); rintro e w9 ⟨rfl, hb9⟩)
      | fail)
    go_ret
    exact ⟨rfl, hb9⟩
end Go.Proofs.Ytdjncacknmejoaa.intakeRoom
