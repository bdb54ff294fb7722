/-
  Contracts of functions and plain mathematics, text by text, each with its conditions ahead of it:
  The statement MessageCuts, walked: it answers true. Memory that was there stays. Condition: the table utf.shapes lies as the program's text lays it.
  The statement MessageCuts: data may be cut into as many sections as one likes; with nothing of it there is no message, and with more than may be neither. Condition, as the card has it: the table utf.shapes lies as the program's text lays it.
-/
import Derived.Test.YtneanfjcncdfdaaGreatDoorY24
import Derived.Test.YtneanfjcncdfdaaGreatDoorY25

section
namespace Go.Proofs.YtneanfjcncdfdaaGreatDoor.messageCuts
set_option maxRecDepth 100000
open Go.RowKit Go.Proofs.YtneanfjcncdfdaaGreatDoor.Utf Go.Proofs.YtneanfjcncdfdaaGreatDoor.Val Go.Proofs.YtneanfjcncdfdaaGreatDoor.Fl Go.Proofs.YtneanfjcncdfdaaGreatDoor.Me V
open Go.Proofs.YtneanfjcncdfdaaGreatDoor.Enc (lay plan)
/-- The first j parts. -/
def prt (Z : Nat → List Nat) (j : Nat) : List (List Nat) := (List.range j).map Z
theorem prt_succ (Z : Nat → List Nat) (j : Nat) : prt Z (j + 1) = prt Z j ++ [Z j] := by simp [prt, List.range_succ]
def bsP (Z : Nat → List Nat) (j : Nat) : List Nat := layL ((prt Z j).map daV)
def whP (Z : Nat → List Nat) (j : Nat) : List Nat := (prt Z j).flatten
theorem bsP_succ (Z : Nat → List Nat) (j : Nat) : bsP Z (j + 1) = bsP Z j ++ lay (plan (daV (Z j))) := by
  unfold bsP
  rw [prt_succ, List.map_append, layL_append]
  show _ ++ (lay (plan (daV (Z j))) ++ []) = _
  rw [List.append_nil]
theorem whP_succ (Z : Nat → List Nat) (j : Nat) : whP Z (j + 1) = whP Z j ++ Z j := by
  unfold whP
  rw [prt_succ, List.flatten_append]
  simp
theorem get_parts (Z : Nat → List Nat) (n : Nat) (hZ : ∀ j, j < n → (∀ x ∈ Z j, x < 256) ∧ (Z j).length ≤ 4096) : getM (bsP Z n) = if n = 0 ∨ 2048 < (whP Z n).length then none else some ⟨4, 0, 0, ⟨#[]⟩, whP Z n⟩ := by
  have h := get_data (prt Z n) (fun b hb => by
    obtain ⟨j, hj, rfl⟩ := List.mem_map.1 hb
    have := hZ j (List.mem_range.1 hj)
    exact ⟨this.1, by omega⟩)
  show getM (layL ((prt Z n).map daV)) = _
  rw [h]
  have e : prt Z n = [] ↔ n = 0 := by simp [prt]
  unfold whP
  by_cases h0 : n = 0 ∨ 2048 < (prt Z n).flatten.length
  · rw [if_pos h0, if_pos (h0.imp e.2 id)]
  · rw [if_neg h0, if_neg fun h1 => h0 (h1.imp e.1 id)]
theorem get_one (b : List Nat) (hb : ∀ x ∈ b, x < 256) (hl : b.length ≤ 65536) : getM (lay (plan (daV b))) = if 2048 < b.length then none else some ⟨4, 0, 0, ⟨#[]⟩, b⟩ := by
  have h := get_data [b] (fun x hx => by rw [List.mem_singleton.1 hx]; exact ⟨hb, by omega⟩)
  have e : layL ([b].map daV) = lay (plan (daV b)) := by show lay (plan (daV b)) ++ [] = _; rw [List.append_nil]
  rw [e] at h
  rw [h]
  have e2 : [b].flatten = b := by simp
  rw [e2]
  by_cases h0 : 2048 < b.length
  · rw [if_pos h0, if_pos (.inr h0)]
  · rw [if_neg h0, if_neg (by simp; omega)]
theorem bs_len {Z : Nat → List Nat} : ∀ {j : Nat}, (∀ i, i < j → (Z i).length ≤ 4096) → (bsP Z j).length ≤ 4163 * j
  | 0, _ => by simp [bsP, prt, layL]
  | j + 1, h => by
    have h1 := bs_len (Z := Z) (j := j) fun i hi => h i (by omega)
    have h2 := da_len (Z j)
    have h3 := h j (by omega)
    rw [bsP_succ, List.length_append]
    omega
theorem wh_len {Z : Nat → List Nat} : ∀ {j : Nat}, (∀ i, i < j → (Z i).length ≤ 4096) → (whP Z j).length ≤ 4096 * j
  | 0, _ => by simp [whP, prt]
  | j + 1, h => by
    have h1 := wh_len (Z := Z) (j := j) fun i hi => h i (by omega)
    have h3 := h j (by omega)
    rw [whP_succ, List.length_append]
    omega
set_option maxHeartbeats 4000000 in
theorem walk (A : Option Addr) (l c : Nat) (F : Nat → Option Addr) (L C : Nat → Nat) (Z : Nat → List Nat) (more : Int) (w : World) (hTab : Tab w) (hP : Ps w w.heap.size A l F L C Z) : Calls Tryz.prog 6 #[.slice A l c, .int .i64 more] w (GivesB true w) := by
  have HP := Lib.hid hP
  have HT := Lib.hid hTab
  have HWK := Lib.hid (fun wx (h : Below w.heap.size w wx) => works10_any wx (hTab.call h))
  have hpos := hTab.pos
  clear hP hTab
  by_cases hl : 60 < l
  case pos =>
    have hd : decide ((60 : Int) < (l : Int)) = true := decide_eq_true (by omega)
    clear hl
    go_enter Tryz.func6, Tryz.ntmps6
    go_wp2_with (go_at_call 11; (with_reducible refine (HWK.out _ (Below.refl _ _)).mono ?_); rintro e w2 ⟨rfl, hb2⟩)
    go_ret
    exact ⟨rfl, hb2⟩
  case neg =>
    have hd : decide ((60 : Int) < (l : Int)) = false := decide_eq_false (by omega)
    have HL : Hid (l ≤ 60) := Lib.hid (by omega)
    clear hl
    go_enter Tryz.func6, Tryz.ntmps6
    go_wp2
    go_loopw [5, 6, 7] (fun s5 s6 s7 wr => ∃ (j : Nat) (A5 : Option Addr) (n5 c5 : Nat) (A6 : Option Addr) (n6 c6 : Nat), j ≤ l ∧ s7 = .int .i64 (j : Nat) ∧ s5 = .slice A5 n5 c5 ∧ s6 = .slice A6 n6 c6 ∧ (∀ i, i < j → (Z i).length ≤ 4096) ∧ Two w wr A5 n5 c5 (bsP Z j) A6 n6 c6 (whP Z j)) (fun _ _ s _ => l - (intOf s).toNat)
    case atStart => exact ⟨0, none, 0, 0, none, 0, 0, by omega, rfl, rfl, rfl, fun i h => by omega, ⟨Utf.Own.nil _ _ _ _ _, Utf.Own.nil _ _ _ _ _, (fun g h => by cases h), Below.refl _ _⟩⟩
    case round =>
      obtain ⟨j, A5, n5, c5, A6, n6, c6, hj, rfl, rfl, rfl, hZ, hT⟩ := hrel
      have HZ := Lib.hid hZ
      have HTW := Lib.hid hT
      have hn5 : n5 ≤ 249780 := by have := bs_len hZ; rw [hT.one.len] at this; have := HL.out; omega
      have hn6 : n6 ≤ 245760 := by have := wh_len hZ; rw [hT.two.len] at this; have := HL.out; omega
      by_cases hlt : j < l
      case pos =>
        obtain ⟨b0, o0, rfl, hb0, hc0, hLC, hR⟩ := HP.out.below hT.low j hlt
        have hb0r : b0 < wr.heap.size := Nat.lt_of_lt_of_le hb0 hT.low.size
        have hRl := hR.len
        have HR := Lib.hid (hR.mono hT.low.size)
        have HRW : Hid (Rd .u8 256 w w.heap.size (F j) (L j) (Z j)) := Lib.hid (by obtain ⟨_, _, _, _, _, _, h⟩ := HP.out j hlt; exact h)
        have HTR := Lib.hid (HT.out.call hT.low)
        have HB0 := Lib.hid hb0
        obtain ⟨Fj, hFj⟩ : ∃ x, F j = x := ⟨_, rfl⟩
        obtain ⟨Lj, hLj⟩ : ∃ x, L j = x := ⟨_, rfl⟩
        obtain ⟨Cj, hCj⟩ : ∃ x, C j = x := ⟨_, rfl⟩
        rw [hFj, hLj, hCj] at hc0
        rw [hFj, hLj] at HR HRW
        rw [hLj] at hRl
        clear hFj hCj hR hT hZ hLC hb0
        by_cases hbig : Lj ≤ 4096
        · have hdb : decide ((4096 : Int) < (Lj : Int)) = false := decide_eq_false (by omega)
          have HBIG := Lib.hid hbig
          have HRL := Lib.hid hRl
          have HLT := Lib.hid hlt
          have hltI : (j : Int) < (l : Int) := by omega
          have hl60 : l ≤ 60 := HL.out
          clear hLj hRl hbig
          go_wp2_with (first
            | (go_at_call 21; (with_reducible refine (data_any Fj Lj Cj (Z j) _ HR.out (Nat.le_trans HBIG.out (by omega)) HTR.out).mono ?_); rintro e w3 ⟨A3, m3, c3, rfl, hO3, hb3⟩; have hm3 : m3 ≤ 4163 := (by have h1 := da_len (Z j); rw [hO3.len] at h1; have := HBIG.out; have := HRL.out; omega); have HT3 := Lib.hid (HTW.out.call hb3); have HO3 := Lib.hid hO3; have HR3 := Lib.hid (HR.out.call hb3); have hc3' := (hb3.cell (p := ⟨b0, o0 + j, none⟩) hb0r).trans hc0; have hsz3 := hb3.size; clear hb3 hO3)
            | (at_builtin; refine wpList_app8at (base := w.heap.size) rfl _ _ rfl rfl HT4.out.two rfl HR4.out (by have := HBIG.out; omega) HT4.out.low.size ?_; intro A6' c6' w5 hO5 hg5 hat5; have HT5 := Lib.hid (Two.snd HT4.out hO5 hg5 hat5))
            | (at_builtin; refine wpList_app8at (base := w.heap.size) rfl _ _ rfl rfl HT3.out.one rfl HO3.out.rd (by omega) HT3.out.low.size ?_; intro A5' c5' w4 hO4 hg4 hat4; have HT4 := Lib.hid (Two.fst HT3.out hO4 hg4 hat4); have hbw : Below w.heap.size w3 w4 := below_grown HT3.out.one hg4 HT3.out.low.size; have hc4' := (hbw.cell (p := ⟨b0, o0 + j, none⟩) HB0.out).trans hc3'; have HR4 := Lib.hid ((HRW.out.below HT4.out.low).mono HT4.out.low.size))
            | fail)
          go_roundw
          case rel => exact ⟨j + 1, A5', n5 + m3, c5', A6', n6 + Lj, c6', HLT.out, by go_num, rfl, rfl, fun i hi => by (by_cases h : i = j); (· subst h; have := HBIG.out; have := HRL.out; omega); (· exact HZ.out i (by omega)), by rw [bsP_succ, whP_succ]; exact HT5.out⟩
          case measure => (have := HLT.out; simp [intOf]; omega)
        · have hdb : decide ((4096 : Int) < (Lj : Int)) = true := decide_eq_true (by omega)
          clear hLj hRl hbig
          go_wp2_with (go_at_call 11; (with_reducible refine (HWK.out _ HTW.out.low).mono ?_); rintro e w3 ⟨rfl, hb3⟩)
          go_ret
          exact ⟨rfl, below_next HTW.out.low hb3⟩
      case neg =>
        obtain rfl : j = l := by omega
        have HJL := Lib.hid (show j ≤ 60 from HL.out)
        have HBY : Hid (∀ i, i < j → (∀ x ∈ Z i, x < 256) ∧ (Z i).length ≤ 4096) := Lib.hid (fun i hi => ⟨by obtain ⟨_, _, _, _, _, _, h⟩ := HP.out i hi; exact h.lim, HZ.out i hi⟩)
        have hn0 : n6 = (whP Z j).length := hT.two.len.symm
        have HWL := Lib.hid hn0
        have HWB : Hid (∀ x ∈ whP Z j, x < 256) := Lib.hid hT.two.rd.lim
        have HGP := Lib.hid (get_parts Z j HBY.out)
        have HTB := Lib.hid (HT.out.call hT.low)
        clear hlt hj hT hZ hn0 hd
        by_cases hno : j = 0 ∨ 2048 < n6
        · have HG : Hid (getM (bsP Z j) = none) := Lib.hid (by rw [HGP.out]; exact if_pos (by rw [← HWL.out]; exact hno))
          by_cases hj0 : j = 0
          · have hdj : ((j : Int) == 0) = true := by rw [hj0]; rfl
            clear hno hj0
            go_wp2_with (first
              | (go_at_call 11; (with_reducible refine (HWK.out _ HL3.out).mono ?_); rintro e w4 ⟨rfl, hb4⟩)
              | (go_at_call 18; (with_reducible refine (get_no A5 n5 c5 _ _ HTW.out.one (Nat.le_trans hn5 (by omega)) HTB.out HG.out).mono ?_); rintro e w3 ⟨rfl, hb3⟩; have HL3 := Lib.hid (below_next HTW.out.low (hb3.alloc hb3.size (.cells #[.int .u8 0, .int .u32 0, .int .u32 0, .string ⟨#[]⟩, .slice none 0 0] 25))))
              | fail)
            go_ret
            exact ⟨rfl, below_next HL3.out hb4⟩
          · have hdj : ((j : Int) == 0) = false := by rw [beq_eq_false_iff_ne]; omega
            have hd6 : decide ((2048 : Int) < (n6 : Int)) = true := decide_eq_true (by omega)
            clear hno hj0
            go_wp2_with (first
              | (go_at_call 11; (with_reducible refine (HWK.out _ HL3.out).mono ?_); rintro e w4 ⟨rfl, hb4⟩)
              | (go_at_call 18; (with_reducible refine (get_no A5 n5 c5 _ _ HTW.out.one (Nat.le_trans hn5 (by omega)) HTB.out HG.out).mono ?_); rintro e w3 ⟨rfl, hb3⟩; have HL3 := Lib.hid (below_next HTW.out.low (hb3.alloc hb3.size (.cells #[.int .u8 0, .int .u32 0, .int .u32 0, .string ⟨#[]⟩, .slice none 0 0] 25))))
              | fail)
            go_ret
            exact ⟨rfl, below_next HL3.out hb4⟩
        · have HG : Hid (getM (bsP Z j) = some ⟨4, 0, 0, ⟨#[]⟩, whP Z j⟩) := Lib.hid (by rw [HGP.out]; exact if_neg (by rw [← HWL.out]; exact hno))
          have hdj : ((j : Int) == 0) = false := by rw [beq_eq_false_iff_ne]; omega
          have hd6 : decide ((2048 : Int) < (n6 : Int)) = false := decide_eq_false (by omega)
          have h26 : n6 ≤ 2048 := by omega
          clear hno
          by_cases hm1 : (4096 : Int) < more
          · obtain ⟨N, hN⟩ : ∃ N, n6 + 4096 = N := ⟨_, rfl⟩
            have hN6 : N ≤ 65536 := by omega
            have hadd : (n6 : Int) + 4096 = (N : Int) := by omega
            clear hN
            obtain ⟨CC, hmk, hzr⟩ := make_zeros N hN6
            by_cases h20 : N ≤ 2048
            · exfalso; omega
            · have hd20 : decide ((N : Int) ≤ 2048) = false := decide_eq_false (by omega)
              have HG2 : Hid (getM (lay (plan (daV (List.replicate N 0)))) = none) := Lib.hid ((get_one _ (fun x hx => by rw [List.eq_of_mem_replicate hx]; omega) (by simp; omega)).trans (if_pos (by simp; omega)))
              go_wp2_with (first
                | (go_at_call 11; (with_reducible refine (HWK.out _ HL6.out).mono ?_); rintro e w7 ⟨rfl, hb7⟩)
                | (go_at_call 18; (with_reducible refine (get_no A5' m5 c5' _ _ HO5.out hm5 HTB5.out HG2.out).mono ?_); rintro e w6 ⟨rfl, hb6⟩; have hb6a := hb6.alloc hb6.size (.cells #[.int .u8 0, .int .u32 0, .int .u32 0, .string ⟨#[]⟩, .slice none 0 0] 25); have HL6 := Lib.hid (below_next HL5.out hb6a))
                | (go_at_call 21; (with_reducible refine (data_any _ N N (List.replicate N 0) _ ((hzr w4).mono (by simp)) hN6 (HTB4.out.call ((Below.refl _ _).alloc (Nat.le_refl _) _))).mono ?_); rintro e w5 ⟨A5', m5, c5', rfl, hO5, hb5⟩; have hb5a : Below w4.heap.size w4 w5 := ((Below.refl _ _).alloc (Nat.le_refl _) _).trans (hb5.mono (by simp)); have HL5 := Lib.hid (below_next HL4.out hb5a); have HTB5 := Lib.hid (HTB4.out.call hb5a); have HO5 := Lib.hid hO5; have hm5 : m5 ≤ 262143 := (by have h1 := da_len (List.replicate N 0); rw [hO5.len] at h1; simp at h1; omega))
                | (go_at_call 20; (with_reducible refine (same_4 A3 l3 c3 A6 n6 c6 (whP Z j) _ HO3.out HR63.out).mono ?_); rintro e w4 ⟨rfl, hb4⟩; have HL4 := Lib.hid (below_next HL3.out hb4); have HTB4 := Lib.hid (HTB3.out.call hb4); clear hb4)
                | (go_at_call 18; (with_reducible refine (get_4 A5 n5 c5 _ _ HTW.out.one (Nat.le_trans hn5 (by omega)) HTB.out HG.out).mono ?_); rintro e w3 ⟨A3, l3, c3, rfl, hO3, hb3⟩; have hb3a := hb3.alloc hb3.size (.cells #[.int .u8 4, .int .u32 0, .int .u32 0, .string ⟨#[]⟩, .slice A3 l3 c3] 25); have HL3 := Lib.hid (below_next HTW.out.low hb3a); have HTB3 := Lib.hid (HTB.out.call hb3a); have HR63 := Lib.hid (HTW.out.two.rd.call hb3a); have HO3 := Lib.hid (hO3.rd.call ((Below.refl _ _).alloc (Nat.le_refl _) (.cells #[.int .u8 4, .int .u32 0, .int .u32 0, .string ⟨#[]⟩, .slice A3 l3 c3] 25))); obtain ⟨y0, y1, y2, y3, y4, yf⟩ := (BxM.new w3 (.int .u8 4) (.int .u32 0) (.int .u32 0) (.string ⟨#[]⟩) (.slice A3 l3 c3)).all; clear hb3 hb3a hO3)
                | fail)
              go_ret
              exact ⟨rfl, below_next HL6.out hb7⟩
          · by_cases hm2 : (0 : Int) < more
            · obtain ⟨mm, hmm⟩ := Int.eq_ofNat_of_zero_le (show 0 ≤ more by omega)
              subst hmm
              obtain ⟨N, hN⟩ : ∃ N, n6 + mm = N := ⟨_, rfl⟩
              have hN6 : N ≤ 65536 := by omega
              have hadd : (n6 : Int) + (mm : Int) = (N : Int) := by omega
              clear hN
              obtain ⟨CC, hmk, hzr⟩ := make_zeros N hN6
              by_cases h20 : N ≤ 2048
              · have hd20 : decide ((N : Int) ≤ 2048) = true := decide_eq_true (by omega)
                have HG2 : Hid (getM (lay (plan (daV (List.replicate N 0)))) = some ⟨4, 0, 0, ⟨#[]⟩, List.replicate N 0⟩) := Lib.hid ((get_one _ (fun x hx => by rw [List.eq_of_mem_replicate hx]; omega) (by simp; omega)).trans (if_neg (by simp; omega)))
                go_wp2_with (first
                  | (go_at_call 11; (with_reducible refine (HWK.out _ HL6.out).mono ?_); rintro e w7 ⟨rfl, hb7⟩)
                  | (go_at_call 18; (with_reducible refine (get_4 A5' m5 c5' _ _ HO5.out hm5 HTB5.out HG2.out).mono ?_); rintro e w6 ⟨A9, l9, c9, rfl, hO9, hb6⟩; have hb6a := hb6.alloc hb6.size (.cells #[.int .u8 4, .int .u32 0, .int .u32 0, .string ⟨#[]⟩, .slice A9 l9 c9] 25); have HL6 := Lib.hid (below_next HL5.out hb6a))
                  | (go_at_call 21; (with_reducible refine (data_any _ N N (List.replicate N 0) _ ((hzr w4).mono (by simp)) hN6 (HTB4.out.call ((Below.refl _ _).alloc (Nat.le_refl _) _))).mono ?_); rintro e w5 ⟨A5', m5, c5', rfl, hO5, hb5⟩; have hb5a : Below w4.heap.size w4 w5 := ((Below.refl _ _).alloc (Nat.le_refl _) _).trans (hb5.mono (by simp)); have HL5 := Lib.hid (below_next HL4.out hb5a); have HTB5 := Lib.hid (HTB4.out.call hb5a); have HO5 := Lib.hid hO5; have hm5 : m5 ≤ 262143 := (by have h1 := da_len (List.replicate N 0); rw [hO5.len] at h1; simp at h1; omega))
                  | (go_at_call 20; (with_reducible refine (same_4 A3 l3 c3 A6 n6 c6 (whP Z j) _ HO3.out HR63.out).mono ?_); rintro e w4 ⟨rfl, hb4⟩; have HL4 := Lib.hid (below_next HL3.out hb4); have HTB4 := Lib.hid (HTB3.out.call hb4); clear hb4)
                  | (go_at_call 18; (with_reducible refine (get_4 A5 n5 c5 _ _ HTW.out.one (Nat.le_trans hn5 (by omega)) HTB.out HG.out).mono ?_); rintro e w3 ⟨A3, l3, c3, rfl, hO3, hb3⟩; have hb3a := hb3.alloc hb3.size (.cells #[.int .u8 4, .int .u32 0, .int .u32 0, .string ⟨#[]⟩, .slice A3 l3 c3] 25); have HL3 := Lib.hid (below_next HTW.out.low hb3a); have HTB3 := Lib.hid (HTB.out.call hb3a); have HR63 := Lib.hid (HTW.out.two.rd.call hb3a); have HO3 := Lib.hid (hO3.rd.call ((Below.refl _ _).alloc (Nat.le_refl _) (.cells #[.int .u8 4, .int .u32 0, .int .u32 0, .string ⟨#[]⟩, .slice A3 l3 c3] 25))); obtain ⟨y0, y1, y2, y3, y4, yf⟩ := (BxM.new w3 (.int .u8 4) (.int .u32 0) (.int .u32 0) (.string ⟨#[]⟩) (.slice A3 l3 c3)).all; clear hb3 hb3a hO3)
                  | fail)
                go_ret
                exact ⟨rfl, below_next HL6.out hb7⟩
              · have hd20 : decide ((N : Int) ≤ 2048) = false := decide_eq_false (by omega)
                have HG2 : Hid (getM (lay (plan (daV (List.replicate N 0)))) = none) := Lib.hid ((get_one _ (fun x hx => by rw [List.eq_of_mem_replicate hx]; omega) (by simp; omega)).trans (if_pos (by simp; omega)))
                go_wp2_with (first
                  | (go_at_call 11; (with_reducible refine (HWK.out _ HL6.out).mono ?_); rintro e w7 ⟨rfl, hb7⟩)
                  | (go_at_call 18; (with_reducible refine (get_no A5' m5 c5' _ _ HO5.out hm5 HTB5.out HG2.out).mono ?_); rintro e w6 ⟨rfl, hb6⟩; have hb6a := hb6.alloc hb6.size (.cells #[.int .u8 0, .int .u32 0, .int .u32 0, .string ⟨#[]⟩, .slice none 0 0] 25); have HL6 := Lib.hid (below_next HL5.out hb6a))
                  | (go_at_call 21; (with_reducible refine (data_any _ N N (List.replicate N 0) _ ((hzr w4).mono (by simp)) hN6 (HTB4.out.call ((Below.refl _ _).alloc (Nat.le_refl _) _))).mono ?_); rintro e w5 ⟨A5', m5, c5', rfl, hO5, hb5⟩; have hb5a : Below w4.heap.size w4 w5 := ((Below.refl _ _).alloc (Nat.le_refl _) _).trans (hb5.mono (by simp)); have HL5 := Lib.hid (below_next HL4.out hb5a); have HTB5 := Lib.hid (HTB4.out.call hb5a); have HO5 := Lib.hid hO5; have hm5 : m5 ≤ 262143 := (by have h1 := da_len (List.replicate N 0); rw [hO5.len] at h1; simp at h1; omega))
                  | (go_at_call 20; (with_reducible refine (same_4 A3 l3 c3 A6 n6 c6 (whP Z j) _ HO3.out HR63.out).mono ?_); rintro e w4 ⟨rfl, hb4⟩; have HL4 := Lib.hid (below_next HL3.out hb4); have HTB4 := Lib.hid (HTB3.out.call hb4); clear hb4)
                  | (go_at_call 18; (with_reducible refine (get_4 A5 n5 c5 _ _ HTW.out.one (Nat.le_trans hn5 (by omega)) HTB.out HG.out).mono ?_); rintro e w3 ⟨A3, l3, c3, rfl, hO3, hb3⟩; have hb3a := hb3.alloc hb3.size (.cells #[.int .u8 4, .int .u32 0, .int .u32 0, .string ⟨#[]⟩, .slice A3 l3 c3] 25); have HL3 := Lib.hid (below_next HTW.out.low hb3a); have HTB3 := Lib.hid (HTB.out.call hb3a); have HR63 := Lib.hid (HTW.out.two.rd.call hb3a); have HO3 := Lib.hid (hO3.rd.call ((Below.refl _ _).alloc (Nat.le_refl _) (.cells #[.int .u8 4, .int .u32 0, .int .u32 0, .string ⟨#[]⟩, .slice A3 l3 c3] 25))); obtain ⟨y0, y1, y2, y3, y4, yf⟩ := (BxM.new w3 (.int .u8 4) (.int .u32 0) (.int .u32 0) (.string ⟨#[]⟩) (.slice A3 l3 c3)).all; clear hb3 hb3a hO3)
                  | fail)
                go_ret
                exact ⟨rfl, below_next HL6.out hb7⟩
            · obtain ⟨N, hN⟩ : ∃ N, n6 = N := ⟨_, rfl⟩
              have hN6 : N ≤ 65536 := by omega
              have hadd : (n6 : Int) = (N : Int) := by omega
              subst hN
              clear hadd
              obtain ⟨CC, hmk, hzr⟩ := make_zeros n6 hN6
              by_cases h20 : n6 ≤ 2048
              · have hd20 : decide ((n6 : Int) ≤ 2048) = true := decide_eq_true (by omega)
                have HG2 : Hid (getM (lay (plan (daV (List.replicate n6 0)))) = some ⟨4, 0, 0, ⟨#[]⟩, List.replicate n6 0⟩) := Lib.hid ((get_one _ (fun x hx => by rw [List.eq_of_mem_replicate hx]; omega) (by simp; omega)).trans (if_neg (by simp; omega)))
                go_wp2_with (first
                  | (go_at_call 11; (with_reducible refine (HWK.out _ HL6.out).mono ?_); rintro e w7 ⟨rfl, hb7⟩)
                  | (go_at_call 18; (with_reducible refine (get_4 A5' m5 c5' _ _ HO5.out hm5 HTB5.out HG2.out).mono ?_); rintro e w6 ⟨A9, l9, c9, rfl, hO9, hb6⟩; have hb6a := hb6.alloc hb6.size (.cells #[.int .u8 4, .int .u32 0, .int .u32 0, .string ⟨#[]⟩, .slice A9 l9 c9] 25); have HL6 := Lib.hid (below_next HL5.out hb6a))
                  | (go_at_call 21; (with_reducible refine (data_any _ n6 n6 (List.replicate n6 0) _ ((hzr w4).mono (by simp)) hN6 (HTB4.out.call ((Below.refl _ _).alloc (Nat.le_refl _) _))).mono ?_); rintro e w5 ⟨A5', m5, c5', rfl, hO5, hb5⟩; have hb5a : Below w4.heap.size w4 w5 := ((Below.refl _ _).alloc (Nat.le_refl _) _).trans (hb5.mono (by simp)); have HL5 := Lib.hid (below_next HL4.out hb5a); have HTB5 := Lib.hid (HTB4.out.call hb5a); have HO5 := Lib.hid hO5; have hm5 : m5 ≤ 262143 := (by have h1 := da_len (List.replicate n6 0); rw [hO5.len] at h1; simp at h1; omega))
                  | (go_at_call 20; (with_reducible refine (same_4 A3 l3 c3 A6 n6 c6 (whP Z j) _ HO3.out HR63.out).mono ?_); rintro e w4 ⟨rfl, hb4⟩; have HL4 := Lib.hid (below_next HL3.out hb4); have HTB4 := Lib.hid (HTB3.out.call hb4); clear hb4)
                  | (go_at_call 18; (with_reducible refine (get_4 A5 n5 c5 _ _ HTW.out.one (Nat.le_trans hn5 (by omega)) HTB.out HG.out).mono ?_); rintro e w3 ⟨A3, l3, c3, rfl, hO3, hb3⟩; have hb3a := hb3.alloc hb3.size (.cells #[.int .u8 4, .int .u32 0, .int .u32 0, .string ⟨#[]⟩, .slice A3 l3 c3] 25); have HL3 := Lib.hid (below_next HTW.out.low hb3a); have HTB3 := Lib.hid (HTB.out.call hb3a); have HR63 := Lib.hid (HTW.out.two.rd.call hb3a); have HO3 := Lib.hid (hO3.rd.call ((Below.refl _ _).alloc (Nat.le_refl _) (.cells #[.int .u8 4, .int .u32 0, .int .u32 0, .string ⟨#[]⟩, .slice A3 l3 c3] 25))); obtain ⟨y0, y1, y2, y3, y4, yf⟩ := (BxM.new w3 (.int .u8 4) (.int .u32 0) (.int .u32 0) (.string ⟨#[]⟩) (.slice A3 l3 c3)).all; clear hb3 hb3a hO3)
                  | fail)
                go_ret
                exact ⟨rfl, below_next HL6.out hb7⟩
              · exfalso; omega
end Go.Proofs.YtneanfjcncdfdaaGreatDoor.messageCuts
end
section
namespace Go.Proofs.YtneanfjcncdfdaaGreatDoor.messageCuts
open Go.ChangeShapes Go.WideShapes Go.ChangeAt Go.RowKit Go.Proofs.YtneanfjcncdfdaaGreatDoor.Utf Go.Proofs.YtneanfjcncdfdaaGreatDoor.Val Go.Proofs.YtneanfjcncdfdaaGreatDoor.Fl Go.Proofs.YtneanfjcncdfdaaGreatDoor.Me
set_option maxRecDepth 100000 in
theorem lifted (os : Os) (started : os.Started) (H : Type) (enc : TypeId × Value → H) :
    ReturnsInHanded {} Tryz.checked os 6 .any (fun w args => (Rows.messageCutsSpec.pre enc Tryz.prog Tryz.f6 [] false w args ∧ laidMetH Tryz.prog laid w) ∧ sizedMet enc Tryz.prog Tryz.f6 (OpenSpec.ofChange Rows.messageCutsSpec) false w args)
      (Rows.messageCutsSpec.post enc Tryz.prog Tryz.f6 false true false false) := by
  refine returnsInHanded_of_change_and (C := Tryz.checked) (X := fun w _ => laidMetH Tryz.prog laid w) (fun _ _ _ hh h => h.of_heap hh) own started (by kernel_rfl) Tryz.func6
    (ChangeSpec.witness_shaped (enc := enc) (C := Tryz.checked) (os := os) (X := fun w _ => laidMetH Tryz.prog laid w) false (World.doorLaid Tryz.prog 400 os) #[.slice none 0 0, .int .i64 0] 8 rfl (World.shaped_of_RefB (by kernel_rfl) (by kernel_rfl)) (by kernel_rfl) (by kernel_rfl) (by kernel_rfl) (door_met os _)) ?_
  intro W base args ds gs before hval0 hW _ _ hL _
  have hval : ∀ (j : Nat) t v, Tryz.f6.params[j]? = some t → args[j]? = some v → Value.okWide Tryz.prog W .any base t v := hval0
  have hW' := hW
  obtain ⟨p, q, hA0, hV, rfl, hfz, hnd⟩ := hW
  have hA : DataW.TrodAll enc Tryz.prog W 0 (fun _ => true) true Tryz.f6.params.toList args.toList ds p := hA0
  rw [Tryz.params6] at hA hval
  obtain ⟨v0, vs0, d0, ds0, p0, q0, hargs, rfl, rfl, h0, r0⟩ := trodAll_cons hA
  obtain ⟨v1, vs1, d1, ds1, p1, q1, rfl, rfl, rfl, h1, r1⟩ := trodAll_cons r0
  obtain ⟨rfl, rfl, rfl⟩ := trodAll_nil r1
  obtain rfl : args = #[v0, v1] := by cases args; simp_all
  obtain ⟨rfl, rfl⟩ := trodVars_none hV
  have hT := of_laid hL
  clear hA0 hval0
  simp only [List.append_nil] at hW'
  have hlt0 : ∀ x ∈ p0, x.block < W.heap.size := fun x hx => hW'.lt x (by simp [hx])
  obtain ⟨A0, l0, c0, F0, L0, C0, Z0, rfl, hc0, hm0, hr0⟩ := open_parts (hval 0 34 v0 rfl rfl) h0 hlt0
  obtain ⟨a1, rfl, rfl, rfl, w1⟩ := open_int Tryz.underlying3 (hval 1 3 v1 rfl rfl) h1
  refine (walk A0 l0 c0 F0 L0 C0 Z0 a1 W hT hr0).mono fun e W' ⟨he, hb⟩ => ?_
  subst he
  exact ⟨_, rfl, _, _, _, [], _, [], hW', trodAll_mk1 (shut_bool Tryz.underlying4 _), trodAll_cons_mk (Below.trod laidOut (by kernel_rfl) (of_decide_eq_true (by kernel_rfl)) h0 hb hlt0) (trodAll_cons_mk (shut_int Tryz.underlying3 w1) trodAll_mk0), rfl, hb.frame _, fun h => by cases h⟩
theorem over : Rows.messageCutsRow.holds Tryz.pinned (OpenSpec.ofChange Rows.messageCutsSpec) :=
  OpenClaim.holds_of_wide 6 Tryz.f6 rfl rfl rfl rfl rfl rfl rfl ⟨rfl, rfl, rfl, rfl, rfl⟩ rfl rfl rfl rfl rfl (by kernel_rfl) Tryz.func6 (by kernel_rfl)
    (of_decide_eq_true (by kernel_rfl)) (by unfold Func.isWrapper; first | (rw [if_pos (by decide +kernel)]; kernel_rfl) | (rw [if_neg (by decide +kernel)]; exact ⟨rfl, rfl⟩))
    (fun os started H enc _ => lifted os started H enc)
/-- The statement: the tied card. -/
theorem proved : Rows.MessageCutsCardSaid :=
  Claim7.holds_tied_plain_at .later [] [.data] true (true, "87c33a7d3582da8a5da947ba8d09e4eeceb7658fff2c93924d2f067bac9606cc") true
    over (fun _ h => by cases h) (by kernel_rfl) (fun _ h => by cases h) messageCuts_row_tie rfl ⟨rfl, rfl⟩ (by kernel_rfl) rfl
    (fun f fn hf hfn => by
      obtain rfl : f = 6 := Option.some.inj ((show Tryz.prog.funcNamed "bellwether/bellwetherlaw10.MessageCuts" = some 6 by kernel_rfl).symm.trans hf) |>.symm
      obtain rfl : fn = Tryz.f6 := (Option.some.inj (Tryz.func6.symm.trans hfn)).symm
      exact ⟨by kernel_rfl, fun j t ht => by
        rw [Tryz.params6] at ht
        have hm : t ∈ [34, 3] := by simpa using Array.mem_of_getElem? ht
        have hall : ([34, 3].all fun u => !Tryz.prog.wantsStandIn u) = true := by kernel_rfl
        exact (show Tryz.prog.wantsStandIn t = false by simpa using List.all_eq_true.1 hall t hm)⟩)
    (by kernel_rfl)
end Go.Proofs.YtneanfjcncdfdaaGreatDoor.messageCuts
end
