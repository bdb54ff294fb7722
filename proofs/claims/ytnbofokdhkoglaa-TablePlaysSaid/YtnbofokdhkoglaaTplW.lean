/-
  The statement TablePlays, walked: it answers true. Memory that was there stays. Condition: a slice of less than 2^63 steps.
-/
import Derived.Test.YtnbofokdhkoglaaTbz
import Derived.Test.YtnbofokdhkoglaaTba
namespace Go.Proofs.Ytnbofokdhkoglaa.tablePlays
set_option maxRecDepth 100000
open Go.RowKit Go.Proofs.Ytnbofokdhkoglaa.Utf Go.Proofs.Ytnbofokdhkoglaa.Tb

theorem off_cell {X : Nat → Prop} {w w' : World} {g : Nat} (h : Off X w w') (hg : g < w.heap.size) (hx : ¬ X g) (j : Nat) : w'.cell? ⟨g, j, none⟩ = w.cell? ⟨g, j, none⟩ := by
  simp only [World.cell?, h.block g hg hx]
theorem rd_all {L : List Bool} {B : Nat} {v : Value} {w : World} (hl : L.length ≤ 65536) (h : w.ownsRow B 3 1 v (allT L).length ((intT L).map encZ)) : ∃ A c, v = .slice A (allT L).length c ∧ Rd .i64 65536 w w.heap.size A (allT L).length (allT L) := by
  have hlim : ∀ x ∈ allT L, x < 65536 := fun x hx => by
    have := (hasT_in (mem_all.1 hx)).2
    omega
  rcases h.2 with ⟨rfl, h0⟩ | ⟨g, cap, cur, rfl, hB, hg, _, _, _, hcur⟩
  · refine ⟨none, 0, by rw [h0], rfl, hlim, fun hn => by omega⟩
  · refine ⟨_, _, rfl, rfl, hlim, fun hn => ⟨g, 0, rfl, (Array.getElem?_eq_some_iff.1 hg).1, fun k hk => ?_⟩⟩
    rw [cell_of_row _ _ _ _ _ _ hg]
    have h1 : (cur.toList.take ((allT L).length * 1))[k]? = some (.int .i64 ((allT L)[k] : Int)) := by
      rw [hcur]
      simp [intT, encZ, List.getElem?_eq_getElem hk]
    rw [List.getElem?_take_of_lt (by omega)] at h1
    simpa using h1
/-- What both tell of one step. -/
theorem doV_is (L : List Bool) (k x : Int) : ∃ (q : Int) (v : Bool), DoV L k x = .tuple #[.int .i64 q, .bool v] := ⟨_, _, rfl⟩
set_option maxHeartbeats 4000000 in
theorem walk (n : Int) (ss : List (Int × Int)) (A : Option Addr) (l c : Nat) (ask : Int) (w : World) (_ : (Lit.int .i64 n).wf = true) (hr : Stp w w.heap.size A l ss) (hc : l ≤ 9223372036854775807) (ha : (Lit.int .i64 ask).wf = true) :
    Calls Try.prog 3 #[.int .i64 n, .slice A l c, .int .i64 ask] w fun e w' => e = .returned (.bool true) ∧ Below w.heap.size w w' := by
  have HR := Lib.hid hr
  have HA := Lib.hid ha
  clear hr ha
  by_cases hbig : 300 < l
  · have d1 : decide (300 < (l : Int)) = true := by simp; omega
    go_enter Try.func3, Try.ntmps3
    go_wp2_with (first
      | (go_at_call 8; (with_reducible refine (works13_any _).mono ?_); rintro e w2 ⟨rfl, hb2⟩)
      | fail)
    go_ret
    exact ⟨rfl, hb2⟩
  have d1 : decide (300 < (l : Int)) = false := by simp; omega
  by_cases hmay : 0 ≤ n ∧ n ≤ 65535
  · obtain ⟨m, rfl⟩ := Int.eq_ofNat_of_zero_le hmay.1
    have hm : m ≤ 65535 := by omega
    have HN := Lib.hid (fun wx => new_yes m wx hm)
    have HXN := Lib.hid (fun wx => xnew_yes m wx hm)
    clear hmay
    go_enter Try.func3, Try.ntmps3
    go_wp2_with (first
      | (go_at_call 9; (with_reducible refine (HN.out _).mono ?_); rintro e w1 ⟨p, b, rfl, t1, hp, hq, hb1⟩; have HT1 := Lib.hid t1; have HB1 := Lib.hid (And.intro hp (And.intro hq hb1)); clear t1 hp hq hb1)
      | (go_at_call 10; (with_reducible refine (HXN.out _).mono ?_); rintro e w2 ⟨gx, h, rfl, x2, hp, hq, hb2⟩; have HX2 := Lib.hid x2; have HB2 := Lib.hid (And.intro hp (And.intro hq hb2)); clear x2 hp hq hb2)
      | fail)
    have HP := Lib.hid (show gx ≠ p ∧ gx ≠ b ∧ h ≠ p ∧ h ≠ b ∧ w.heap.size ≤ gx ∧ w.heap.size ≤ h by have h1 := HT1.out.plt; have h2 := HT1.out.blt; have h3 := HB1.out.2.2.size; have h4 := HB2.out; omega)
    have HT2 := Lib.hid (HT1.out.call HB2.out.2.2)
    have HB3 := Lib.hid (bn HB1.out.2.2 HB2.out.2.2)
    go_loopw [11, 12, 13, 14, 15] (fun i _ _ _ _ wr => ∃ (j : Nat) (L : List Bool), j ≤ l ∧ i = .int .i64 (j : Int) ∧ L.length = m + 1 ∧ Tin wr p b L ∧ Xin wr gx h L ∧ Below w.heap.size w wr) (fun i _ _ _ _ _ => l - (Go.RowKit.intOf i).toNat)
    case atStart => exact ⟨0, noneT m, by omega, rfl, by simp [noneT], HT2.out, HX2.out, HB3.out⟩
    case round =>
      obtain ⟨j, L, hj, rfl, hL, t, x, hb⟩ := hrel
      have HT := Lib.hid t
      have HX := Lib.hid x
      have HB := Lib.hid hb
      have HL := Lib.hid hL
      by_cases hlt : j < l
      · obtain ⟨sb, so, k, y, rfl, hsb, _, c0, c1, wk, wy⟩ := (HR.out.call hb).2 j hlt
        have d2 : decide ((j : Int) < (l : Int)) = true := by simpa using hlt
        have i0 : (0 : Int) ≤ (j : Int) := by omega
        have i1 : (j : Int) < (l : Int) := by omega
        have HS := Lib.hid (show sb < wr.heap.size ∧ ¬ Xp p b sb from ⟨Nat.lt_of_lt_of_le hsb hb.size, fun e => by have h1 := HB1.out; rcases e with e | e <;> omega⟩)
        have HXP := Lib.hid (show ¬ Xp p b gx ∧ ¬ Xp p b h from ⟨fun e => by have h1 := HP.out; rcases e with e | e <;> omega, fun e => by have h1 := HP.out; rcases e with e | e <;> omega⟩)
        obtain ⟨q, v, hv⟩ := doV_is L k y
        obtain ⟨u, hu⟩ : ∃ u, hasT (rowT L k y) ask = u := ⟨_, rfl⟩
        have HD := Lib.hid (do_any k y wr t wy)
        have HM := Lib.hid (fun wx (tx : Xin wx gx h L) => meant_any k y wx tx)
        have HHa := Lib.hid (fun wx (tx : Tin wx p b (rowT L k y)) => by have := has_any ask wx tx HA.out; rw [hu] at this; exact this)
        have HHx := Lib.hid (fun wx (tx : Xin wx gx h (rowT L k y)) => by have := xhas_any ask wx tx; rw [hu] at this; exact this)
        rw [hv] at HD HM
        clear t x hb hL wk wy hsb hv hu
        go_wp2_with (first
          | (go_at_call 11; (with_reducible refine HD.out.mono ?_); rintro e w3 ⟨rfl, t3, o3⟩; have y0 := (off_cell o3 HS.out.1 HS.out.2 _).trans c0; have y1 := (off_cell o3 HS.out.1 HS.out.2 _).trans c1; have HX3 := Lib.hid (HX.out.off o3 HXP.out.1 HXP.out.2))
          | (go_at_call 12; (with_reducible refine (HM.out _ HX3.out).mono ?_); rintro e w4 ⟨rfl, x4, o4⟩; have HT4 := Lib.hid (t3.off o4 (by have := HP.out; omega) (by have := HP.out; omega)))
          | (go_at_call 13; (with_reducible refine (HHa.out _ HT4.out).mono ?_); rintro e w5 ⟨rfl, hb5⟩; have HX5 := Lib.hid (x4.call hb5))
          | (go_at_call 14; (with_reducible refine (HHx.out _ HX5.out).mono ?_); rintro e w6 ⟨rfl, rfl⟩)
          | fail)
        go_roundw
        case rel =>
          have b3 := HB.out.trans (Off.bo o3 HB.out.size HB1.out.1 HB1.out.2.1)
          have b4 : Below w.heap.size w w4 := b3.trans (o4.below b3.size fun i hi e => by have e' : i = h := e; have := HP.out; omega)
          exact ⟨j + 1, rowT L k y, by omega, by go_num, by rw [len_row]; exact HL.out, HT4.out.call hb5, HX5.out, bt b4 b4.size hb5⟩
        case measure => simp [Go.RowKit.intOf]; omega
      · obtain rfl : j = l := by omega
        have d2 : decide ((j : Int) < (j : Int)) = false := by simp
        have hmost : (L.length : Int) - 1 = (m : Int) := by omega
        have HMo := Lib.hid (fun wx (tx : Tin wx p b L) => by have := most_any wx tx; rw [hmost] at this; exact this)
        obtain ⟨N, hN⟩ : ∃ N, (allT L).length = N := ⟨_, rfl⟩
        have hNL := all_len L
        have HCt := Lib.hid (fun wx (tx : Tin wx p b L) => by have := tcount_any wx tx; rw [hN] at this; exact this)
        have HXA := Lib.hid (xall_any wr x)
        have HTA := Lib.hid (fun wx (tx : Tin wx p b L) => all_any wx tx)
        have HNN := Lib.hid hN
        have hN6 : N ≤ 65536 := by omega
        have HSa := Lib.hid (fun B B' A A' c c' wx h1 h2 => same13_yes (B := B) (B' := B') A A' N c c' (allT L) wx h1 h2 hN6)
        clear t x hb hL hlt hmost hN hNL
        go_wp2_with (first
          | (go_at_call 15; (with_reducible refine HXA.out.mono ?_); rintro e w3 ⟨A3, c3, rfl, ho3, hb3⟩; rw [HNN.out] at ho3 ⊢; have HR3 := Lib.hid ho3.rd; have HT3 := Lib.hid (HT.out.call hb3))
          | (go_at_call 17; (with_reducible refine (HTA.out _ HT3.out).mono ?_); rintro e w4 ⟨v4, rfl, hrow4, hb4⟩; obtain ⟨A4, c4, rfl, hr4⟩ := rd_all (by have := HL.out; omega) hrow4; rw [HNN.out] at hr4 ⊢; have HR4 := Lib.hid hr4; have HR5 := Lib.hid (HR3.out.below hb4); have HT4 := Lib.hid (HT3.out.call hb4))
          | (go_at_call 16; (with_reducible refine (HSa.out _ _ _ _ _ _ _ HR4.out HR5.out).mono ?_); rintro e w5 ⟨rfl, hb5⟩; have HT5 := Lib.hid (HT4.out.call hb5))
          | (go_at_call 18; (with_reducible refine (HCt.out _ HT5.out).mono ?_); rintro e w6 ⟨rfl, rfl⟩)
          | (go_at_call 19; (with_reducible refine (HMo.out _ HT5.out).mono ?_); rintro e w7 ⟨rfl, rfl⟩)
          | (go_at_call 8; (with_reducible refine (works13_any _).mono ?_); rintro e w8 ⟨rfl, hb8⟩)
          | fail)
        go_ret
        exact ⟨rfl, bt HB.out HB.out.size (bn (bn (bn hb3 hb4) hb5) hb8)⟩
  · have HN := Lib.hid (fun wx => new_no n wx hmay)
    have HXN := Lib.hid (fun wx => xnew_no n wx hmay)
    clear hmay
    go_enter Try.func3, Try.ntmps3
    go_wp2_with (first
      | (go_at_call 9; (with_reducible refine (HN.out _).mono ?_); rintro e w1 ⟨rfl, rfl⟩)
      | (go_at_call 10; (with_reducible refine (HXN.out _).mono ?_); rintro e w2 ⟨rfl, rfl⟩)
      | fail)
    go_loopw [11, 12, 13, 14, 15] (fun i _ _ _ _ wr => i = .int .i64 0 ∧ w = wr) (fun _ _ _ _ _ _ => 0)
    case atStart => exact ⟨rfl, rfl⟩
    case round =>
      obtain ⟨rfl, rfl⟩ := hrel
      by_cases h0 : 0 < l
      · have d2 : decide ((0 : Int) < (l : Int)) = true := by simpa using h0
        go_wp2_with (first
          | (go_at_call 8; (with_reducible refine (works13_any _).mono ?_); rintro e w8 ⟨rfl, hb8⟩)
          | fail)
        go_ret
        exact ⟨rfl, hb8⟩
      · have d2 : decide ((0 : Int) < (l : Int)) = false := by simp; omega
        go_wp2_with (first
          | (go_at_call 8; (with_reducible refine (works13_any _).mono ?_); rintro e w8 ⟨rfl, hb8⟩)
          | fail)
        go_ret
        exact ⟨rfl, hb8⟩
end Go.Proofs.Ytnbofokdhkoglaa.tablePlays
