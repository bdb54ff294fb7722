/-
  The statement IntakePlays, walked: it answers true. Memory that was there stays. Condition: slices of less than 2^47 bytes.
-/
import Derived.Test.YtdjncacknmejoaaIplW
namespace Go.Proofs.Ytdjncacknmejoaa.intakePlays
set_option maxRecDepth 100000
open Go.RowKit Go.Proofs.Ytdjncacknmejoaa.Utf Go.Proofs.Ytdjncacknmejoaa.Enc Go.Proofs.Ytdjncacknmejoaa.Fr Go.Proofs.Ytdjncacknmejoaa.It

set_option maxHeartbeats 4000000 in
theorem walk_no (size : Nat) (A : Option Addr) (n c : Nat) (F : Nat → Option Addr) (L C : Nat → Nat) (Z : Nat → List Nat) (Q : Option Addr) (nq cq : Nat) (w : World) (hs : size < 4294967296) (hP : Ps w w.heap.size A n F L C Z) (hn : n ≤ 9223372036854775807) (hL : ∀ r, r < n → L r ≤ 140737488355328) (hM : ¬ (512 ≤ size ∧ size ≤ 4096)) :
    Calls Try.prog 3 #[.int .u32 (size : Int), .slice A n c, .slice Q nq cq] w fun e w' => e = .returned (.bool true) ∧ Below w.heap.size w w' := by
  have HP := Lib.hid hP
  have HL := Lib.hid hL
  have HM := Lib.hid hM
  have HS := Lib.hid hs
  clear hP hL hM hs
  go_enter Try.func3, Try.ntmps3
  go_wp2_with fail
  (with_reducible refine (large_plays _ _ _ _ _ _ _ _ HP.out hn HL.out).mono ?_)
  rintro e w1 ⟨⟨lg, rfl, _⟩, rfl⟩
  cases lg
  · go_wp2_with (first
      | (go_at_call 11; (with_reducible refine (new_no size _ HS.out HM.out).mono ?_); rintro e w1 ⟨rfl, rfl⟩)
      | (go_at_call 12; (with_reducible refine (xnew_no size _ HS.out HM.out).mono ?_); rintro e w1 ⟨rfl, rfl⟩)
      | fail)
    go_loopw [11] (fun i wx => i = .int .i64 0 ∧ wx = w) (fun _ _ => 0)
    case atStart => exact ⟨rfl, rfl⟩
    case round =>
      obtain ⟨rfl, rfl⟩ := hrel
      by_cases h0 : 0 < n
      · have hn0 : decide ((0 : Int) < (n : Int)) = true := by simp; omega
        clear h0
        go_wp2_with (go_at_call 10; (with_reducible refine (works12_any _).mono ?_); rintro e w1 ⟨rfl, hb1⟩)
        all_goals (go_ret; exact ⟨rfl, hb1⟩)
      · have hn0 : decide ((0 : Int) < (n : Int)) = false := by simp; omega
        clear h0
        go_wp2_with (go_at_call 10; (with_reducible refine (works12_any _).mono ?_); rintro e w1 ⟨rfl, hb1⟩)
        all_goals (go_ret; exact ⟨rfl, hb1⟩)
  · go_wp2_with (go_at_call 10; (with_reducible refine (works12_any _).mono ?_); rintro e w1 ⟨rfl, hb1⟩)
    go_ret
    exact ⟨rfl, hb1⟩
theorem rmy_off {w w1 : World} {base gb n : Nat} {l : List Nat} {X : Nat → Prop} (h : Rm.Rmy w base gb n l) (ho : Off X w w1) (hx : ∀ b, base ≤ b → ¬ X b) : Rm.Rmy w1 base gb n l :=
  ⟨own_off2 h.own ho fun i hi => hx i (bof_own h.own hi).1, h.len⟩
theorem far_gb {g h gx B S gb : Nat} {Ax A2 : Option Addr} (h1 : ∀ b, Xi g h b ∨ Xx gx Ax b → b < B) (hB : B ≤ gb) (ha : ∀ b, Bof A2 b → Bof Ax b ∨ S ≤ b) (hS : gb < S) : ∀ b, Xi g h b ∨ Xx gx A2 b → b ≠ gb := fun b hb e => by
  subst e
  rcases hb with hb | hb | hb
  · have := h1 b (.inl hb); omega
  · have := h1 b (.inr (.inl hb)); omega
  · rcases ha b hb with h2 | h2
    · have := h1 b (.inr (.inr h2)); omega
    · omega
theorem ow_some {w : World} {base n c : Nat} {A : Option Addr} {M : List Nat} (h : Rm.Ow w base A n c M) (hn : 0 < n) : ∃ b, A = some ⟨b, 0, none⟩ := by
  have hl := h.2.1
  rcases h.2.2 with ⟨e, h0⟩ | ⟨g, cap, cur, e, _⟩
  · omega
  · injection e with e _ _
    exact ⟨g, e⟩
theorem ow_cell {w : World} {base g n c k : Nat} {M : List Nat} (h : Rm.Ow w base (some ⟨g, 0, none⟩) n c M) (hk : k < n) : ∃ x : Nat, x < 256 ∧ w.cell? ⟨g, k, none⟩ = some (.int .u8 (x : Int)) ∧ w.frozen? ⟨g, k, none⟩ = false := by
  have hl : M.length = n := by have := h.2.1; rw [vs_length] at this; omega
  have hkM : k < M.length := by omega
  refine ⟨M[k], h.1 _ (List.getElem_mem hkM), ?_, h.2.frozenAt k⟩
  rw [h.2.cellAt k (by omega)]
  simp [vs, List.getElem?_eq_getElem hkM]
set_option maxHeartbeats 4000000 in
theorem walk_yes (size : Nat) (A : Option Addr) (n c : Nat) (F : Nat → Option Addr) (L C : Nat → Nat) (Z : Nat → List Nat) (Q : Option Addr) (nq cq : Nat) (q : List Nat) (w : World) (hP : Ps w w.heap.size A n F L C Z) (hn : n ≤ 9223372036854775807) (hL : ∀ r, r < n → L r ≤ 140737488355328) (hq : Rd .u8 256 w w.heap.size Q nq q) (hM1 : 512 ≤ size) (hM2 : size ≤ 4096) :
    Calls Try.prog 3 #[.int .u32 (size : Int), .slice A n c, .slice Q nq cq] w fun e w' => e = .returned (.bool true) ∧ Below w.heap.size w w' := by
  have HP := Lib.hid hP
  have HL := Lib.hid hL
  have HQ := Lib.hid hq
  have HNEW := Lib.hid (new_yes size w hM1 hM2)
  have HXNEW := Lib.hid fun wx => xnew_yes size wx hM1 hM2
  clear hP hL hq
  go_enter Try.func3, Try.ntmps3
  go_wp2_with fail
  (with_reducible refine (large_plays _ _ _ _ _ _ _ _ HP.out hn HL.out).mono ?_)
  rintro e w1 ⟨⟨lg, rfl, hlg⟩, rfl⟩
  cases lg
  · have HLG := Lib.hid (hlg rfl)
    clear hlg
    go_wp2_with fail
    (with_reducible refine HNEW.out.mono ?_)
    rintro e w2 ⟨g, h, rfl, hi2, hg, hh, hb2⟩
    go_wp2_with fail
    (with_reducible refine (HXNEW.out w2).mono ?_)
    rintro e w3 ⟨gx, rfl, hx3, hgx, hb3⟩
    have hs2 := hb2.size
    have hgl := hi2.glt
    have hhl := hi2.lt
    have hps : PS w.heap.size w3 g h gx 0 none ⟨size, [], false, false⟩ := by
      refine ⟨hi2.call hb3, hx3, fun b hb => ?_, fun b hb e => ?_⟩
      · rcases hb with (e | e) | (e | ⟨o, e⟩)
        · omega
        · omega
        · omega
        · cases e
      · rcases e with e | ⟨o, e⟩
        · rcases hb with hb | hb <;> omega
        · cases e
    have HPS := Lib.hid hps
    have HB3 := Lib.hid (hb2.trans (hb3.mono hs2))
    clear hi2 hg hh hb2 hx3 hgx hb3 hps hs2 hgl hhl HNEW HXNEW
    go_wp2_with fail
    go_loopw [11] (fun i wr => ∃ (j : Nat) (s : St) (cx : Nat) (Ax : Option Addr), j ≤ n ∧ i = .int .i64 (j : Int) ∧ PS w.heap.size wr g h gx cx Ax s ∧ Below w.heap.size w wr) (fun i _ => n - (intOf i).toNat)
    case atStart => exact ⟨0, _, _, _, by omega, rfl, HPS.out, HB3.out⟩
    case round =>
      obtain ⟨j, s, cx, Ax, hj, rfl, hps, hb⟩ := hrel
      have HPS2 := Lib.hid hps
      have HB := Lib.hid hb
      by_cases hlt : j < n
      · obtain ⟨b, o, rfl, hbo, hc, hlc, hr⟩ := HP.out j hlt
        have hcj := (hb.cell (p := ⟨b, o + j, none⟩) hbo).trans hc
        have h8 := HLG.out j hlt
        have HRD := Lib.hid hr
        have d1 : decide ((j : Int) < (n : Int)) = true := by simp; omega
        have i0 : (0 : Int) ≤ (j : Int) := by omega
        have i1 : (j : Int) < (n : Int) := by omega
        have HJ := Lib.hid (show j + 1 ≤ n by omega)
        have HC := Lib.hid hc
        clear hps hb hc hr
        obtain ⟨Lj, hLj⟩ : ∃ Lj, L j = Lj := ⟨_, rfl⟩
        obtain ⟨Cj, hCj⟩ : ∃ Cj, C j = Cj := ⟨_, rfl⟩
        obtain ⟨Fj, hFj⟩ : ∃ Fj, F j = Fj := ⟨_, rfl⟩
        rw [hLj, hCj, hFj] at hcj HC
        rw [hLj, hCj] at hlc
        rw [hLj, hFj] at HRD
        rw [hLj] at h8
        clear hLj hCj hFj
        go_wp2_with fail
        (with_reducible refine (Rm.room Fj Lj Cj (Z j) wr ((HRD.out.below HB.out).mono HB.out.size) (by omega)).mono ?_)
        rintro e w4 ⟨gb, rfl, hrm, hb4⟩
        have HRM := Lib.hid hrm
        have HPS4 := Lib.hid (HPS2.out.call hb4)
        have HB4 := Lib.hid (HB.out.trans (hb4.mono HB.out.size))
        have hlo4 : wr.heap.size ≤ gb := hrm.blk.1
        have hwgb : w.heap.size ≤ gb := Nat.le_trans HB.out.size hlo4
        clear hrm hb4 hcj
        have HRN : Hid (∀ b, Xi g h b ∨ Xx gx Ax b → b < wr.heap.size) := Lib.hid fun b hb => by
          have h1 := HPS2.out.inn.glt
          have h2 := HPS2.out.inn.lt
          have h3 := HPS2.out.xin.glt
          rcases hb with (e | e) | (e | e)
          · omega
          · omega
          · omega
          · exact HPS2.out.xin.blk b e
        go_upto_region 11 with (fail)
        go_cut [77] (fun s77 wx => s77 = .bool false ∧ ∃ c2 A2, PS w.heap.size wx g h gx c2 A2 (put s (Z j)) ∧ Rm.Rmy wx wr.heap.size gb Lj (Z j) ∧ Below w.heap.size w wx ∧ ∀ b, Xi g h b ∨ Xx gx A2 b → b ≠ gb)
        case first =>
          have HPUT : Hid (∀ wx, Below w4.heap.size w4 wx → Calls Try.prog 14 #[.pointer (some ⟨g, 0, none⟩), .slice (some ⟨gb, 0, none⟩) Lj (Lj + 11)] wx (GivesPut g h s Lj (Z j) wx)) := Lib.hid fun wx hb => put_any g h s (some ⟨gb, 0, none⟩) Lj (Lj + 11) (Z j) wx (HPS4.out.inn.call hb) (Rm.Rmy.mine (HRM.out.below hb)).rd (by omega) (by omega)
          have HXP : Hid (∀ wy, XIn wy gx Ax cx s → Below w.heap.size w wy → Calls Try.prog 15 #[.pointer (some ⟨gx, 0, none⟩), .slice Fj Lj Cj] wy (GivesXPut gx Ax s Lj (Z j) wy)) := Lib.hid fun wy hx hb => xput_any gx cx Ax s Fj Lj Cj (Z j) wy hx ((HRD.out.below hb).mono hb.size) hlc (by omega)
          have HKP : Hid (∀ wz, Rm.Rmy wz wr.heap.size gb Lj (Z j) → Below w.heap.size w wz → Calls Try.prog 16 #[.slice (some ⟨gb, 0, none⟩) Lj (Lj + 11), .slice Fj Lj Cj] wz fun e w' => e = .returned (.bool true) ∧ wz = w') := Lib.hid fun wz hr hb => Rm.kept wr.heap.size gb Lj Fj Cj (Z j) wz hr ((HRD.out.below hb).mono hb.size) (by omega)
          have HCL : Hid (∀ wz, Below w.heap.size w wz → wz.cell? ⟨b, o + j, none⟩ = some (.slice Fj Lj Cj)) := Lib.hid fun wz hb => (hb.cell (p := ⟨b, o + j, none⟩) hbo).trans HC.out
          have hc4 := HCL.out w4 HB4.out
          have hc4d := HCL.out w4.drew HB4.out.drew
          obtain ⟨qq, hqq⟩ : ∃ qq, min Lj (room s) = qq := ⟨_, rfl⟩
          have HQQ := Lib.hid hqq
          clear hqq
          go_region_with (first
            | (go_at_call 14; (with_reducible refine (HPUT.out _ (by first | exact Below.refl _ _ | exact Below.drew (Below.refl _ _))).mono ?_); rintro e w5 ⟨rfl, hi5, hf5⟩; rw [HQQ.out]; have hps4 := PS.call HPS4.out (w1 := w4.drew) (Below.drew (Below.refl _ _)); have hx5 := PS.other hps4 hf5; have hb5 : Below w.heap.size w w5 := (HB4.out.drew).trans (hf5.below HB4.out.size fun b _ e => by have := hps4.lo b (.inl e); omega); have hc5 := HCL.out w5 hb5; have hrm5 : Rm.Rmy w5 wr.heap.size gb Lj (Z j) := rmy_off (HRM.out.below (Below.drew (Below.refl _ _))) hf5 (fun b hb e => by have := HRN.out b (.inl e); omega))
            | (go_at_call 15; (with_reducible refine (HXP.out _ hx5 hb5).mono ?_); rintro e w6 ⟨A2, c2, rfl, hx6, ha6, hf6⟩; rw [HQQ.out]; have hps6 := PS.both hps4 (by have := HB4.out.size; exact this) hi5 hf5 hx6 hf6 ha6; have hb6 : Below w.heap.size w w6 := hb5.trans (hf6.below hb5.size fun b _ e => by have := hps4.lo b (.inr e); omega); have hc6 := HCL.out w6 hb6; have hrm6 : Rm.Rmy w6 wr.heap.size gb Lj (Z j) := rmy_off hrm5 hf6 (fun b hb e => by have := HRN.out b (.inr e); omega); have far6 := far_gb HRN.out hlo4 ha6 (Nat.lt_of_lt_of_le HRM.out.blk.2 hf5.size))
            | (go_at_call 16; (with_reducible refine (HKP.out _ hrm6 hb6).mono ?_); rintro e w7 ⟨rfl, rfl⟩)
            | fail)
          all_goals go_wp2_with fail
          all_goals go_meet
          all_goals exact ⟨rfl, _, _, hps6, hrm6, hb6, far6⟩
        case rest =>
          obtain ⟨rfl, c2, A2, hps5, hrm5, hb5, hfar5⟩ := hcut
          have HPS5 := Lib.hid hps5
          have HOW5 : Hid (Rm.Ow wc wr.heap.size (some ⟨gb, 0, none⟩) Lj (Lj + 11) (Z j)) := Lib.hid ⟨hrm5.mine.1, hrm5.mine.2.1⟩
          have HB5 := Lib.hid hb5
          have HFAR := Lib.hid hfar5
          clear hps5 hrm5 hb5 hfar5
          go_wp2_with fail
          go_loopw [13] (fun i wx => ∃ (k : Nat) (M : List Nat), k ≤ Lj ∧ i = .int .i64 (k : Int) ∧ Rm.Ow wx wr.heap.size (some ⟨gb, 0, none⟩) Lj (Lj + 11) M ∧ PS w.heap.size wx g h gx c2 A2 (put s (Z j)) ∧ Below w.heap.size w wx) (fun i _ => Lj - (intOf i).toNat)
          case atStart => exact ⟨0, _, by omega, rfl, HOW5.out, HPS5.out, HB5.out⟩
          case round =>
            obtain ⟨k, M, hk, rfl, how, hps, hb6⟩ := hrel
            have HOW := Lib.hid how
            have HPS6 := Lib.hid hps
            have HB6 := Lib.hid hb6
            clear how hps hb6
            by_cases hkl : k < Lj
            · obtain ⟨x, hx, hcx, hfx⟩ := ow_cell HOW.out hkl
              obtain ⟨y, hy, hy2⟩ : ∃ y : Nat, ((x : Int) + 1) % 256 = (y : Int) ∧ y < 256 := ⟨(x + 1) % 256, by omega, by omega⟩
              have HY := Lib.hid hy2
              have d2 : decide ((k : Int) < (Lj : Int)) = true := by simp; omega
              have j0 : (0 : Int) ≤ (k : Int) := by omega
              have j1 : (k : Int) < (Lj : Int) := by omega
              clear hy2
              go_wp2
              go_roundw
              case rel =>
                exact ⟨k + 1, _, by omega, by go_num, HOW.out.stored HY.out, HPS6.out.off (X := fun i => i = gb) (Off.set _ _ _ rfl) (fun b e => ⟨fun h1 => HFAR.out b (.inl h1) e, fun h1 => HFAR.out b (.inr h1) e⟩), HB6.out.trans ((Off.set (X := fun i => i = gb) (g := gb) _ _ _ rfl).below HB6.out.size fun b _ e => by omega)⟩
              case measure => simp [intOf]; omega
            · have d2 : decide ((k : Int) < (Lj : Int)) = false := by simp; omega
              go_upto_region 17 with (fail)
              go_cut [14] (fun s14 wx => s14 = .int .i64 1 ∧ wx = wr)
              case first =>
                go_wp2
                go_meet
                exact ⟨rfl, rfl⟩
              case rest =>
                obtain ⟨hu, hw⟩ := hcut
                subst hu
                subst hw
                rename_i hK
                refine hK _ _ ?_
                clear hK
                go_step
                go_cut [14] (fun s14 wx => (∃ q : Nat, q ≤ 300 ∧ s14 = .int .i64 (q : Int)) ∧ wx = wc)
                case first =>
                  by_cases h0 : 0 < nq
                  · have e0 : decide ((0 : Int) < (nq : Int)) = true := by simp; omega
                    obtain ⟨r, hr⟩ : ∃ r, j % nq = r := ⟨_, rfl⟩
                    have hrl : r < nq := hr ▸ Nat.mod_lt j h0
                    obtain ⟨b', o', x, rfl, hbb, hx, hx2, hcx⟩ := ((HQ.out.below HB6.out).mono HB6.out.size).at_ hrl
                    have K1 : (j : Int).tmod (nq : Int) = (r : Int) := by rw [← hr]; exact Int.ofNat_tmod j nq
                    have K0 : ((nq : Int) == 0) = false := by simp; omega
                    obtain ⟨q5, hq5⟩ : ∃ q5, x % 5 = q5 := ⟨_, rfl⟩
                    have HQ5 := Lib.hid (show q5 ≤ 300 by omega)
                    have K2 : (x : Int).tmod 5 = (q5 : Int) := by rw [← hq5]; exact Int.ofNat_tmod x 5
                    have K3 : IntKind.i64.wrap (x : Int) = (x : Int) := IntWalk.i64_in _ (by have : x < 256 := hx2; omega)
                    have r0 : (0 : Int) ≤ (r : Int) := by omega
                    have r1 : (r : Int) < (nq : Int) := by omega
                    clear h0 hr hx hx2 hq5
                    go_wp2
                    go_meet
                    exact ⟨⟨_, HQ5.out, rfl⟩, rfl⟩
                  · have e0 : decide ((0 : Int) < (nq : Int)) = false := by simp; omega
                    have e1 : decide (0 < nq) = false := by simp; omega
                    have e2 : ¬ (0 : Int) < (nq : Int) := by omega
                    clear h0
                    go_wp2
                    go_meet
                    exact ⟨⟨1, by omega, rfl⟩, rfl⟩
                case rest =>
                  obtain ⟨⟨qn, hqn, hu⟩, hw⟩ := hcut
                  subst hu
                  subst hw
                  go_wp2_with fail
                  go_loopw [15] (fun i wx => ∃ (m : Nat) (s' : St) (c3 : Nat) (A3 : Option Addr), m ≤ qn ∧ i = .int .i64 (m : Int) ∧ PS w.heap.size wx g h gx c3 A3 s' ∧ Below w.heap.size w wx) (fun i _ => qn - (intOf i).toNat)
                  case atStart => exact ⟨0, _, _, _, by omega, rfl, HPS6.out, HB6.out⟩
                  case round =>
                    obtain ⟨m, s', c3, A3, hm, rfl, hps7, hb7⟩ := hrel
                    have HPS7 := Lib.hid hps7
                    have HB7 := Lib.hid hb7
                    clear hps7 hb7
                    by_cases hmq : m < qn
                    · have d3 : decide ((m : Int) < (qn : Int)) = true := by simp; omega
                      obtain ⟨bl, hbl⟩ : ∃ bl, (bdN s').length = bl := ⟨_, rfl⟩
                      obtain ⟨bd, hbd⟩ : ∃ bd, bdN s' = bd := ⟨_, rfl⟩
                      obtain ⟨KD, hkd⟩ : ∃ KD, kind s' = KD := ⟨_, rfl⟩
                      obtain ⟨CH, hch⟩ : ∃ CH, chN s' = CH := ⟨_, rfl⟩
                      have hN := next_any g h s' wr HPS7.out.inn
                      have hXN := fun wx hx => xnext_any gx c3 A3 s' wx hx
                      unfold GivesN at hN
                      unfold GivesXN at hXN
                      rw [hkd, hch, hbl, hbd] at hN
                      rw [hkd, hch, hbl, hbd] at hXN
                      have HN := Lib.hid hN
                      have HXN := Lib.hid hXN
                      have HBD := Lib.hid hbd
                      clear hN hXN hbd hbl hkd hch
                      go_wp2_with fail
                      (with_reducible refine HN.out.mono ?_)
                      rintro e w8 ⟨B1, cb1, rfl, ho8, hi8, hf8⟩
                      have hs8 := hf8.size
                      have hb9 : Below w8.heap.size w8 (w8.alloc (.cells #[.int .u16 (CH : Int), .slice B1 bl cb1] 39)) := ba (Below.refl _ _) _
                      have hx9 : BxF (w8.alloc (.cells #[.int .u16 (CH : Int), .slice B1 bl cb1] 39)) w8.heap.size CH B1 bl cb1 := heap_alloc_new w8 _
                      have ho9 := ho8.below hb9
                      have hi9 := hi8.call hb9
                      have hf9 : Off (Xi g h) wr (w8.alloc (.cells #[.int .u16 (CH : Int), .slice B1 bl cb1] 39)) := hf8.alloc _
                      have hxi9 := HPS7.out.other hf9
                      have hfarB : ∀ b, Bof B1 b → wr.heap.size ≤ b ∧ b < w8.heap.size := fun b hb => bof_own ho8 hb
                      have HFB := Lib.hid hfarB
                      have HX9 := Lib.hid hx9
                      have HO9 := Lib.hid ho9
                      have HI9 := Lib.hid hi9
                      have HF9 := Lib.hid hf9
                      have HS8 := Lib.hid hs8
                      have HXI9 := Lib.hid hxi9
                      clear hs8 hb9 hx9 ho9 hi9 hf9 hxi9 ho8 hi8 hf8 hfarB
                      go_wp2_with fail
                      (with_reducible refine (HXN.out _ HXI9.out).mono ?_)
                      rintro e w10 ⟨B2, cb2, A4, c4, rfl, ho10, hx10, ha10, hf10⟩
                      have hs10 := hf10.size
                      have hs9 := HF9.out.size
                      have hps10 := PS.both HPS7.out HB7.out.size HI9.out HF9.out hx10 hf10 (fun b hb => Or.inl (ha10 b hb))
                      have hb10 : Below w.heap.size w w10 := HB7.out.trans (PS.below HPS7.out HB7.out.size HF9.out hf10)
                      have hbx10 := BxF.off HX9.out hf10 (HPS7.out.far HS8.out).2
                      have ho1 := own_off2 HO9.out hf10 (fun b hb => (HPS7.out.far (HFB.out b hb).1).2)
                      have hb11 : Below w10.heap.size w10 (w10.alloc (.cells #[.int .u16 (CH : Int), .slice B2 bl cb2] 39)) := ba (Below.refl _ _) _
                      have hbx11 := hbx10.call hb11
                      have hby11 : BxF (w10.alloc (.cells #[.int .u16 (CH : Int), .slice B2 bl cb2] 39)) w10.heap.size CH B2 bl cb2 := heap_alloc_new w10 _
                      have ho11 := ho1.below hb11
                      have ho12 := ho10.below hb11
                      have HPS11 := Lib.hid (hps10.call hb11)
                      have HB11 := Lib.hid (hb10.trans (hb11.mono hb10.size))
                      have HS := Lib.hid (same_yes _ _ CH B1 B2 bl cb1 cb2 bd _ ho11.rd ho12.rd (Nat.le_refl _) (Nat.le_refl _))
                      have HBX11 := Lib.hid hbx11
                      have HO11 := Lib.hid ho11
                      have HNB : Hid (∀ b, Bof B1 b → b ≠ w8.heap.size ∧ (¬ Xi g h b ∧ ¬ Xx gx A4 b) ∧ w.heap.size ≤ b) := Lib.hid fun b hb => by
                        have h1 := HFB.out b hb
                        have h2 := HPS7.out.far h1.1
                        refine ⟨by omega, ⟨h2.1, fun e => ?_⟩, Nat.le_trans HB7.out.size h1.1⟩
                        rcases e with e | e
                        · exact h2.2 (.inl e)
                        · exact h2.2 (.inr (ha10 b e))
                      obtain ⟨y0, y1, _, _⟩ := hbx11.all
                      obtain ⟨z0, z1, _, _⟩ := hby11.all
                      clear hs10 hs9 hps10 hb10 hbx10 ho1 hb11 hbx11 hby11 ho11 ho12 ho10 hx10 ha10 hf10
                      go_wp2_with fail
                      (with_reducible refine HS.out.mono ?_)
                      rintro e w12 ⟨rfl, hb12⟩
                      have HBX12 := Lib.hid (HBX11.out.call hb12)
                      have HO12 := Lib.hid (HO11.out.below hb12)
                      have HPS12 := Lib.hid (HPS11.out.call hb12)
                      have HB12 := Lib.hid (HB11.out.trans (hb12.mono HB11.out.size))
                      clear hb12 y0 y1 z0 z1
                      generalize w8.heap.size = bx at *
                      go_wp2_with fail
                      have hblm : bl ≤ 9223372036854775807 := by
                        have := HO12.out.cap
                        unfold maxLen at this
                        omega
                      go_loopw [20] (fun i wx => ∃ (t : Nat) (M : List Nat), t ≤ bl ∧ i = .int .i64 (t : Int) ∧ Rm.Ow wx wr.heap.size B1 bl cb1 M ∧ BxF wx bx CH B1 bl cb1 ∧ PS w.heap.size wx g h gx c4 A4 (next s') ∧ Below w.heap.size w wx) (fun i _ => bl - (intOf i).toNat)
                      case atStart => exact ⟨0, _, by omega, rfl, ⟨HO12.out.1, HO12.out.2.1⟩, HBX12.out, HPS12.out, HB12.out⟩
                      case round =>
                        obtain ⟨t, M, ht, rfl, how, hbx, hps, hb13⟩ := hrel
                        obtain ⟨v0, v1, vf, _⟩ := hbx.all
                        have HOW := Lib.hid how
                        have HBX := Lib.hid hbx
                        have HPS13 := Lib.hid hps
                        have HB13 := Lib.hid hb13
                        clear how hbx hps hb13
                        by_cases htl : t < bl
                        · obtain ⟨b1, rfl⟩ := ow_some HOW.out (by omega)
                          obtain ⟨x, hx, hcx, hfx⟩ := ow_cell HOW.out htl
                          have d4 : decide ((t : Int) < (bl : Int)) = true := by simp; omega
                          have t0 : (0 : Int) ≤ (t : Int) := by omega
                          have t1 : (t : Int) < (bl : Int) := by omega
                          go_wp2
                          go_roundw
                          case rel =>
                            have hnb := HNB.out b1 ⟨0, rfl⟩
                            exact ⟨t + 1, _, by omega, by go_num, HOW.out.stored (x := 0) (by omega), BxF.off HBX.out (Off.set (X := fun i => i = b1) _ _ _ rfl) (fun e => hnb.1 e.symm), HPS13.out.off (X := fun i => i = b1) (Off.set _ _ _ rfl) (fun b e => by subst e; exact hnb.2.1), HB13.out.trans ((Off.set (X := fun i => i = b1) (g := b1) _ _ _ rfl).below HB13.out.size fun b _ e => by omega)⟩
                          case measure => simp [intOf]; omega
                        · have d4 : decide ((t : Int) < (bl : Int)) = false := by simp; omega
                          go_wp2
                          go_roundw
                          case rel => exact ⟨m + 1, _, _, _, by omega, by go_num, HPS13.out, HB13.out⟩
                          case measure => simp [intOf]; omega
                    · have d3 : decide ((m : Int) < (qn : Int)) = false := by simp; omega
                      obtain ⟨H, hH⟩ : ∃ H, s'.held.length = H := ⟨_, rfl⟩
                      obtain ⟨R, hR⟩ : ∃ R, room s' = R := ⟨_, rfl⟩
                      have HHE : Hid (∀ wx, Below wr.heap.size wr wx → Calls Try.prog 20 #[.pointer (some ⟨g, 0, none⟩)] wx fun e w' => e = .returned (.int .i64 (H : Int)) ∧ wx = w') := Lib.hid fun wx hb => hH ▸ held_any g h s' wx (HPS7.out.inn.call hb)
                      have HRO : Hid (∀ wx, Below wr.heap.size wr wx → Calls Try.prog 21 #[.pointer (some ⟨g, 0, none⟩)] wx fun e w' => e = .returned (.int .i64 (R : Int)) ∧ Below wr.heap.size wr w') := Lib.hid fun wx hb => (room_any g h s' wx (HPS7.out.inn.call hb)).mono fun e w' ⟨h1, h2⟩ => ⟨by rw [h1, hR], hb.trans (h2.mono hb.size)⟩
                      have HXR : Hid (∀ wx, Below wr.heap.size wr wx → Calls Try.prog 22 #[.pointer (some ⟨gx, 0, none⟩)] wx fun e w' => e = .returned (.int .i64 (R : Int)) ∧ Below wr.heap.size wr w') := Lib.hid fun wx hb => (xroom_any gx c3 A3 s' wx (HPS7.out.xin.call hb)).mono fun e w' ⟨h1, h2⟩ => ⟨by rw [h1, hR], hb.trans (h2.mono hb.size)⟩
                      have hcx := HPS7.out.xin.cells.2.1
                      rw [hH] at hcx
                      clear hH hR
                      go_wp2_with fail
                      go_cut [153] (fun s153 wx => s153 = .bool false ∧ Below wr.heap.size wr wx)
                      case first =>
                        go_region_with (first
                          | (go_at_call 20; (with_reducible refine (HHE.out _ (by first | exact Below.refl _ _ | exact Below.drew (Below.refl _ _))).mono ?_); rintro e w14 ⟨rfl, rfl⟩)
                          | (go_at_call 21; (with_reducible refine (HRO.out _ (by first | exact Below.refl _ _ | exact Below.drew (Below.refl _ _))).mono ?_); rintro e w14 ⟨rfl, hb14⟩)
                          | (go_at_call 22; (with_reducible refine (HXR.out _ hb14).mono ?_); rintro e w15 ⟨rfl, hb15⟩)
                          | fail)
                        all_goals go_wp2_with fail
                        all_goals go_meet
                        all_goals exact ⟨rfl, hb15⟩
                      case rest =>
                        obtain ⟨hu, hb16⟩ := hcut
                        subst hu
                        have HPS16 := Lib.hid (HPS7.out.call hb16)
                        have HB16 := Lib.hid (HB7.out.trans (hb16.mono HB7.out.size))
                        clear hb16 hcx
                        go_wp2
                        go_roundw
                        case rel => exact ⟨j + 1, _, _, _, HJ.out, by go_num, HPS16.out, HB16.out⟩
                        case measure => simp [intOf]; omega
      · obtain rfl : j = n := by omega
        have d1 : decide ((j : Int) < (j : Int)) = false := by simp
        clear hps hb
        go_wp2_with (go_at_call 10; (with_reducible refine (works12_any _).mono ?_); rintro e w1 ⟨rfl, hb1⟩)
        go_ret
        exact ⟨rfl, HB.out.trans (hb1.mono HB.out.size)⟩
  · go_wp2_with (go_at_call 10; (with_reducible refine (works12_any _).mono ?_); rintro e w1 ⟨rfl, hb1⟩)
    go_ret
    exact ⟨rfl, hb1⟩
end Go.Proofs.Ytdjncacknmejoaa.intakePlays
