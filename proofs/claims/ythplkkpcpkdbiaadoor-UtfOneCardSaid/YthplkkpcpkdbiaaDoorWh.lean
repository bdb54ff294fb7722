/-
  Contract of the laws' helper 'whole': it tells whether bytes are the text of some characters, bit by bit. Memory that was there stays. Condition: at most 2^30 bytes.
-/
import Derived.Test.YthplkkpcpkdbiaaDoorCutM
namespace Go.Proofs.YthplkkpcpkdbiaaDoor.Utf
open Go.RowKit

/-- How many bits are set, from the highest on. -/
def lz (o : Nat) : Nat := if o < 128 then 0 else if o < 192 then 1 else if o < 224 then 2 else if o < 240 then 3 else if o < 248 then 4 else if o < 252 then 5 else if o < 254 then 6 else if o < 255 then 7 else 8
theorem lz_le (o : Nat) : lz o ≤ 8 := by unfold lz; (repeat' split) <;> omega
theorem lz_bit' : ∀ (o : Fin 256) (k : Fin 9), k.val ≤ lz o.val → decide (128 ≤ o.val * 2 ^ k.val % 256) = decide (k.val < lz o.val) := by decide +kernel
theorem lz_bit {o k : Nat} (ho : o < 256) (hk : k ≤ lz o) : decide (128 ≤ o * 2 ^ k % 256) = decide (k < lz o) := by
  have := lz_le o
  exact lz_bit' ⟨o, ho⟩ ⟨k, by omega⟩ hk
theorem and128' : ∀ o : Fin 256, ((o.val &&& 128) == 0) = decide (o.val < 128) := by decide +kernel
theorem and128 (X : Nat) (h : X < 256) : (bits .and .u8 (X : Int) 128 != 0) = decide (128 ≤ X) := by
  have e : (bits .and .u8 (X : Int) 128 == 0) = decide (X < 128) := by
    rw [show (128 : Int) = ((128 : Nat) : Int) from rfl, aw X 128 h (by omega), show (0 : Int) = ((0 : Nat) : Int) from rfl, eqb]
    exact and128' ⟨X, h⟩
  rw [bne, e]
  by_cases hx : X < 128
  · rw [decide_eq_true hx, decide_eq_false (by omega)]; rfl
  · rw [decide_eq_false hx, decide_eq_true (by omega)]; rfl
theorem pow_next (o k : Nat) : o * 2 ^ k % 256 * 2 % 256 = o * 2 ^ (k + 1) % 256 := by
  rw [Nat.pow_succ, ← Nat.mul_assoc]
  omega
theorem fits_yes {m C : Nat} (hC : isC C = true) (hf : fu C = m) : fits m C = true := by simp [fits, hC, hf]
theorem fits_isC {m C : Nat} (hC : isC C = false) : fits m C = false := by simp [fits, hC]
theorem fits_fu {m C : Nat} (hf : fu C ≠ m) : fits m C = false := by simp [fits, hf]
theorem isC_no {C : Nat} (h : 1114111 < C ∨ (55296 ≤ C ∧ C < 57344)) : isC C = false := by
  cases h' : isC C with
  | false => rfl
  | true => have := isC_iff.1 h'; omega
theorem fu_lt {C m : Nat} (hm : 1 ≤ m ∧ m ≤ 3) (h : C < if m = 1 then 128 else if m = 2 then 2048 else 65536) : fu C ≠ m := by
  obtain ⟨h1, h3⟩ := hm
  unfold fu
  obtain rfl | rfl | rfl : m = 1 ∨ m = 2 ∨ m = 3 := by omega
  all_goals
    simp at h
    (repeat' split) <;> omega

def GivesW (l : List Nat) (w : World) (e : Ending) (w' : World) : Prop := ∃ p, e = .returned (.bool p) ∧ right l p ∧ Below w.heap.size w w'

set_option maxHeartbeats 2000000 in
theorem whole_any (A : Option Addr) (n c : Nat) (l : List Nat) (w : World) (hr : Rd .u8 256 w w.heap.size A n l) (hnc : n ≤ c) (hn : n ≤ 1073741824) :
    Calls Tryd.prog 24 #[.slice A n c] w (GivesW l w) := by
  go_enter Tryd.func24, Tryd.ntmps24
  go_wp2
  go_loopw [0] (fun b wr => ∃ A' n' c' d r, n' ≤ c' ∧ n' ≤ n ∧ b = .slice A' n' c' ∧ AllC d ∧ l = txt d ++ r ∧ Rd .u8 256 wr w.heap.size A' n' r ∧ Below w.heap.size w wr) (fun b _ => lenOf b)
  case atStart => exact ⟨A, n, c, [], l, hnc, Nat.le_refl _, rfl, allC_nil, rfl, hr, Below.refl _ _⟩
  case round =>
    obtain ⟨A', n', c', d, r, hnc', hnn, rfl, hd, hl, hr', hb⟩ := hrel
    have HL := Lib.hid hl
    have HD := Lib.hid hd
    clear hl hd
    by_cases h0 : n' = 0
    · subst h0
      have hr0 : r = [] := List.eq_nil_of_length_eq_zero hr'.1
      subst hr0
      go_wp2
      go_ret
      exact ⟨true, rfl, .inl ⟨rfl, d, HD.out, by rw [HL.out, List.append_nil]⟩, hb⟩
    · have hn0 : 0 < n' := by omega
      have hlen := hr'.len
      have HNo : Hid (dec r = none → NoT l) := Lib.hid fun h => by rw [HL.out]; exact no_text HD.out (fun h' => h0 (by rw [← hlen, h']; rfl)) h
      obtain ⟨b, o, x, rfl, hbb, hx, hx2, hc⟩ := hr'.at_ hn0
      have hrr : r = x :: r.drop 1 := by simpa using drop_at hx
      have HR := Lib.hid hrr
      rw [Nat.add_zero] at hc
      have hnI : decide ((0 : Int) < n') = true := by simp; omega
      have hs := hb.size
      clear hx hrr
      go_wp2
      go_loop [3, 4] (fun q i => ∃ k X : Nat, k ≤ lz x ∧ X = x * 2 ^ k % 256 ∧ q = .int .u8 X ∧ i = .int .i64 k) (fun _ i => 9 - (intOf i).toNat)
      case atStart => exact ⟨0, x, Nat.zero_le _, by simp; omega, rfl, rfl⟩
      case round =>
        obtain ⟨k, X, hk, hX, rfl, rfl⟩ := hrel
        have hX2 : X < 256 := by omega
        have ha := and128 X hX2
        have hb8 := lz_bit hx2 hk
        rw [← hX] at hb8
        rw [hb8] at ha
        have hk8 := lz_le x
        clear hb8
        by_cases hkl : k < lz x
        · rw [decide_eq_true hkl] at ha
          obtain ⟨Z, hZ, hZ1⟩ : ∃ Z : Nat, Z = x * 2 ^ (k + 1) % 256 ∧ ((X : Int) * 2) % 256 = Z := ⟨X * 2 % 256, by rw [hX, pow_next], by omega⟩
          have HZ := Lib.hid hZ
          clear hZ hX
          go_wp2
          exact ⟨⟨k + 1, Z, by omega, HZ.out, by rw [hZ1], by go_num⟩, by simp [intOf]; omega⟩
        · rw [decide_eq_false hkl] at ha
          have hke : k = lz x := by omega
          clear hkl hk
          by_cases hA : x < 128
          · have hlz : lz x = 0 := by unfold lz; rw [if_pos hA]
            rw [hlz] at hke
            subst hke
            have hXx : X = x := by rw [hX]; simp; omega
            subst hXx
            clear hX hlz
            have hld : ld X = some (0, X) := by unfold ld; rw [if_pos hA]
            have hdec : dec r = some (X, 1) := by rw [HR.out, dec_gon_some hld rfl, fits_yes (isC_iff.2 (by omega)) (by unfold fu; rw [if_pos (by omega)]), if_pos rfl]
            have dA1 : decide ((n' : Int) < 1) = false := by simp; omega
            have dA2 : decide ((X : Int) < 0) = false := by simp
            have dA3 : decide (1114111 < (X : Int)) = false := by simp; omega
            have dA4 : decide (55296 ≤ (X : Int)) = false := by simp; omega
            clear hld hA hk8
            go_wp2
            go_loop [5, 6] (fun q i => q = .int .u32 (X : Int) ∧ i = .int .i64 1) (fun _ _ => 0)
            case atStart => exact ⟨rfl, rfl⟩
            case round =>
              obtain ⟨rfl, rfl⟩ := hrel
              obtain ⟨hC, hm, r', hrr⟩ := dec_inv hdec
              obtain ⟨hle, hdrop⟩ := en_append_len hrr
              rw [← hm] at hle hdrop
              rw [hlen] at hle
              obtain ⟨A1, c1, hc1, _, hs1, hs2, hrd⟩ := cut_from (some ⟨b, o, none⟩) n' c' 1 hle hnc'
              have hr4 := hrd _ _ _ hr'
              rw [hdrop] at hr4
              have HL2 : Hid (l = txt (d ++ [X]) ++ r') := Lib.hid (by rw [HL.out, hrr, txt_append, txt_cons, txt_nil, List.append_nil, List.append_assoc])
              have HD2 : Hid (AllC (d ++ [X])) := Lib.hid (HD.out.append (AllC.one hC))
              clear hdec hrr hdrop hrd HL HD hC hm HNo HR
              have hs1' := hs1 (wr.alloc (.cells #[.int .u32 0, .int .u32 0, .int .u32 128, .int .u32 2048, .int .u32 65536] 36)) (1 : Int) rfl
              have hs2' := hs2 (wr.alloc (.cells #[.int .u32 0, .int .u32 0, .int .u32 128, .int .u32 2048, .int .u32 65536] 36)) (1 : Int) rfl
              clear hs1 hs2
              set_option maxRecDepth 4000 in
              go_wp2
              exact ⟨⟨A1, n' - 1, c1, d ++ [X], r', hc1, by omega, rfl, HD2.out, HL2.out, hr4.alloc hs _, hb.alloc hs _⟩, by simp [lenOf]; omega⟩
          by_cases hB : x < 192
          · have hlz : lz x = 1 := by unfold lz; rw [if_neg hA, if_pos hB]
            rw [hlz] at hke
            subst hke
            have HN : Hid (NoT l) := Lib.hid (HNo.out (by rw [HR.out]; exact dec_lead (by unfold ld; rw [if_neg hA, if_pos hB])))
            clear hlz hX HNo HL HD HR
            go_wp2
            go_ret
            exact ⟨false, rfl, .inr ⟨rfl, HN.out⟩, hb⟩
          by_cases hC2 : x < 224
          · have hlz : lz x = 2 := by unfold lz; rw [if_neg hA, if_neg hB, if_pos hC2]
            rw [hlz] at hke
            subst hke
            obtain ⟨c0, hc0⟩ : ∃ c0, c0 = x - 192 := ⟨_, rfl⟩
            have hld : ld x = some (1, c0) := by rw [hc0]; unfold ld; rw [if_neg hA, if_neg hB, if_pos hC2]
            have hcI : c0 < 32 := by omega
            have hq1 : (X : Int) / 4 = c0 := by rw [hX]; omega
            have hq2 : (X : Int) / 2 ^ 2 = c0 := by rw [hX]; omega
            have HLD := Lib.hid hld
            clear hlz hX hld hc0 hA hB hC2 hk8
            by_cases hsh : n' < 2
            · have HN : Hid (NoT l) := Lib.hid (HNo.out (by rw [HR.out]; exact dec_gon_none HLD.out (gon_short _ _ _ (by rw [List.length_drop]; omega))))
              have dS : decide ((n' : Int) < 2) = true := by simp; omega
              clear HNo HL HD HR HLD
              go_wp2
              go_ret
              exact ⟨false, rfl, .inr ⟨rfl, HN.out⟩, hb⟩
            have dS : decide ((n' : Int) < 2) = false := by simp; omega
            go_wp2
            go_loop [5, 6] (fun q i => ∃ j C : Nat, 1 ≤ j ∧ j ≤ 2 ∧ i = .int .i64 j ∧ q = .int .u32 C ∧ gon 1 c0 (r.drop 1) = gon (2 - j) C (r.drop j) ∧ ((j = 1 → C < 32) ∧ (j = 2 → C < 2048) ∧ (j = 3 → C < 131072) ∧ (j = 4 → C < 8388608))) (fun _ i => 5 - (intOf i).toNat)
            case atStart => exact ⟨1, c0, by omega, by omega, rfl, rfl, rfl, ⟨fun _ => by omega, fun h => by omega, fun h => by omega, fun h => by omega⟩⟩
            case round =>
              obtain ⟨j, C, hj1, hj2, rfl, rfl, hg, hB⟩ := hrel
              have hCb : C < 8388608 := by
                obtain ⟨q1, q2, q3, q4⟩ := hB
                omega
              by_cases hjK : j < 2
              · obtain ⟨b', o', y, e, hbb', hy, hy2, hcy⟩ := hr'.at_ (k := j) (by omega)
                injection e with e
                injection e with e1 e2
                subst e1
                subst e2
                have hjI : (j : Int) < 2 := by omega
                have hjn : (j : Int) < n' := by omega
                rw [drop_at hy, show 2 - j = (2 - (j + 1)) + 1 by omega] at hg
                by_cases hcont : cont y = true
                · have hyl := cont_lt hcont
                  have t1 : ((y : Int) / 64 != 2) = false := by simp; omega
                  have t2 : ((y : Int) / 2 ^ 6 != 2) = false := by simp; omega
                  have hand := and63 y hy2 hcont
                  rw [gon_step hcont] at hg
                  obtain ⟨z, hz⟩ : ∃ z, y - 128 = z := ⟨_, rfl⟩
                  have hz64 : z < 64 := by omega
                  rw [hz] at hand hg
                  have hor := or6 C z (by omega) hz64
                  obtain ⟨Z, hZ⟩ : ∃ Z, C * 64 + z = Z := ⟨_, rfl⟩
                  rw [hZ] at hor hg
                  have HB2 : Hid ((j + 1 = 1 → Z < 32) ∧ (j + 1 = 2 → Z < 2048) ∧ (j + 1 = 3 → Z < 131072) ∧ (j + 1 = 4 → Z < 8388608)) := Lib.hid (by
                    obtain ⟨q1, q2, q3, q4⟩ := hB
                    exact ⟨fun h => by omega, fun h => by omega, fun h => by omega, fun h => by omega⟩)
                  have HG := Lib.hid hg
                  clear hg hZ hz hyl hcont hB hy
                  go_wp2
                  exact ⟨⟨j + 1, Z, by omega, by omega, by go_num, by first | rfl | go_num | (rw [hor]), HG.out, HB2.out⟩, by simp [intOf]; omega⟩
                · have hcf : cont y = false := by simpa using hcont
                  rw [gon_stop hcf] at hg
                  have HN : Hid (NoT l) := Lib.hid (HNo.out (by rw [HR.out]; exact dec_gon_none HLD.out hg))
                  have hyl : ¬ (128 ≤ y ∧ y < 192) := fun h => hcont (by simp [cont, h])
                  have t1 : ((y : Int) / 64 != 2) = true := by simp; omega
                  have t2 : ((y : Int) / 2 ^ 6 != 2) = true := by simp; omega
                  clear hg hcont hcf hy hyl hB HNo HL HD HR HLD
                  go_wp2
                  go_ret
                  exact ⟨false, rfl, .inr ⟨rfl, HN.out⟩, hb⟩
              · obtain rfl : j = 2 := by omega
                have hCI : C < 2048 := by
                  obtain ⟨q1, q2, q3, q4⟩ := hB
                  omega
                rw [Nat.sub_self] at hg
                simp only [gon] at hg
                have hd := dec_gon_some (r := r.drop 1) HLD.out hg
                rw [← HR.out] at hd
                clear hg hB hjK hj1 hj2
                by_cases hf : C < 128
                · have HN : Hid (NoT l) := Lib.hid (HNo.out (by rw [hd, fits_fu (fu_lt (by omega) (by simpa using hf))]; rfl))
                  have e1 : decide ((C : Int) < 128) = true := by simp; omega
                  have hb6 := hb.alloc hs (.cells (vs .u32 [0, 0, 128, 2048, 65536]).toArray 36)
                  clear hd hf hCI hCb HNo HL HD HR HLD
                  go_wp2
                  go_ret
                  exact ⟨false, rfl, .inr ⟨rfl, HN.out⟩, hb6⟩
                by_cases hi : 1114111 < C
                · have HN : Hid (NoT l) := Lib.hid (HNo.out (by rw [hd, fits_isC (isC_no (.inl hi))]; rfl))
                  have e1 : decide ((C : Int) < 128) = false := by simp; omega
                  have e2 : decide (1114111 < (C : Int)) = true := by simp; omega
                  have hb6 := hb.alloc hs (.cells (vs .u32 [0, 0, 128, 2048, 65536]).toArray 36)
                  clear hd hf hCI hCb hi HNo HL HD HR HLD
                  go_wp2
                  go_ret
                  exact ⟨false, rfl, .inr ⟨rfl, HN.out⟩, hb6⟩
                by_cases hgap : 55296 ≤ C ∧ C < 57344
                · have HN : Hid (NoT l) := Lib.hid (HNo.out (by rw [hd, fits_isC (isC_no (.inr hgap))]; rfl))
                  have e1 : decide ((C : Int) < 128) = false := by simp; omega
                  have e2 : decide (1114111 < (C : Int)) = false := by simp; omega
                  have e3 : decide (55296 ≤ (C : Int)) = true := by simp; omega
                  have e4 : decide ((C : Int) < 57344) = true := by simp; omega
                  have hb6 := hb.alloc hs (.cells (vs .u32 [0, 0, 128, 2048, 65536]).toArray 36)
                  clear hd hf hCI hCb hi hgap HNo HL HD HR HLD
                  go_wp2
                  go_ret
                  exact ⟨false, rfl, .inr ⟨rfl, HN.out⟩, hb6⟩
                have hdec : dec r = some (C, 2) := by rw [hd, fits_yes (isC_iff.2 (by omega)) (by unfold fu; rw [if_neg (by omega), if_pos (by omega)]), if_pos rfl]
                have e1 : decide ((C : Int) < 128) = false := by simp; omega
                have e2 : decide (1114111 < (C : Int)) = false := by simp; omega
                have hKn : 2 ≤ n' := by omega
                clear hd HLD
                obtain e3 | ⟨e3, e4⟩ : decide (55296 ≤ (C : Int)) = false ∨ (decide (55296 ≤ (C : Int)) = true ∧ decide ((C : Int) < 57344) = false) := by simp; omega
                all_goals
                  clear hf hi hgap
                  obtain ⟨hC, hm, r', hrr⟩ := dec_inv hdec
                  obtain ⟨hle, hdrop⟩ := en_append_len hrr
                  rw [← hm] at hle hdrop
                  rw [hlen] at hle
                  obtain ⟨A1, c1, hc1, _, hs1, hs2, hrd⟩ := cut_from (some ⟨b, o, none⟩) n' c' 2 hle hnc'
                  have hr4 := hrd _ _ _ hr'
                  rw [hdrop] at hr4
                  have HL2 : Hid (l = txt (d ++ [C]) ++ r') := Lib.hid (by rw [HL.out, hrr, txt_append, txt_cons, txt_nil, List.append_nil, List.append_assoc])
                  have HD2 : Hid (AllC (d ++ [C])) := Lib.hid (HD.out.append (AllC.one hC))
                  clear hdec hrr hdrop hrd HL HD hC hm HNo HR
                  have hs1' := hs1 (wr.alloc (.cells #[.int .u32 0, .int .u32 0, .int .u32 128, .int .u32 2048, .int .u32 65536] 36)) (2 : Int) rfl
                  have hs2' := hs2 (wr.alloc (.cells #[.int .u32 0, .int .u32 0, .int .u32 128, .int .u32 2048, .int .u32 65536] 36)) (2 : Int) rfl
                  clear hs1 hs2
                  set_option maxRecDepth 4000 in
                  go_wp2
                  exact ⟨⟨A1, n' - 2, c1, d ++ [C], r', hc1, by omega, rfl, HD2.out, HL2.out, hr4.alloc hs _, hb.alloc hs _⟩, by simp [lenOf]; omega⟩
          by_cases hC3 : x < 240
          · have hlz : lz x = 3 := by unfold lz; rw [if_neg hA, if_neg hB, if_neg hC2, if_pos hC3]
            rw [hlz] at hke
            subst hke
            obtain ⟨c0, hc0⟩ : ∃ c0, c0 = x - 224 := ⟨_, rfl⟩
            have hld : ld x = some (2, c0) := by rw [hc0]; unfold ld; rw [if_neg hA, if_neg hB, if_neg hC2, if_pos hC3]
            have hcI : c0 < 16 := by omega
            have hq1 : (X : Int) / 8 = c0 := by rw [hX]; omega
            have hq2 : (X : Int) / 2 ^ 3 = c0 := by rw [hX]; omega
            have HLD := Lib.hid hld
            clear hlz hX hld hc0 hA hB hC2 hC3 hk8
            by_cases hsh : n' < 3
            · have HN : Hid (NoT l) := Lib.hid (HNo.out (by rw [HR.out]; exact dec_gon_none HLD.out (gon_short _ _ _ (by rw [List.length_drop]; omega))))
              have dS : decide ((n' : Int) < 3) = true := by simp; omega
              clear HNo HL HD HR HLD
              go_wp2
              go_ret
              exact ⟨false, rfl, .inr ⟨rfl, HN.out⟩, hb⟩
            have dS : decide ((n' : Int) < 3) = false := by simp; omega
            go_wp2
            go_loop [5, 6] (fun q i => ∃ j C : Nat, 1 ≤ j ∧ j ≤ 3 ∧ i = .int .i64 j ∧ q = .int .u32 C ∧ gon 2 c0 (r.drop 1) = gon (3 - j) C (r.drop j) ∧ ((j = 1 → C < 16) ∧ (j = 2 → C < 1024) ∧ (j = 3 → C < 65536) ∧ (j = 4 → C < 4194304))) (fun _ i => 5 - (intOf i).toNat)
            case atStart => exact ⟨1, c0, by omega, by omega, rfl, rfl, rfl, ⟨fun _ => by omega, fun h => by omega, fun h => by omega, fun h => by omega⟩⟩
            case round =>
              obtain ⟨j, C, hj1, hj2, rfl, rfl, hg, hB⟩ := hrel
              have hCb : C < 8388608 := by
                obtain ⟨q1, q2, q3, q4⟩ := hB
                omega
              by_cases hjK : j < 3
              · obtain ⟨b', o', y, e, hbb', hy, hy2, hcy⟩ := hr'.at_ (k := j) (by omega)
                injection e with e
                injection e with e1 e2
                subst e1
                subst e2
                have hjI : (j : Int) < 3 := by omega
                have hjn : (j : Int) < n' := by omega
                rw [drop_at hy, show 3 - j = (3 - (j + 1)) + 1 by omega] at hg
                by_cases hcont : cont y = true
                · have hyl := cont_lt hcont
                  have t1 : ((y : Int) / 64 != 2) = false := by simp; omega
                  have t2 : ((y : Int) / 2 ^ 6 != 2) = false := by simp; omega
                  have hand := and63 y hy2 hcont
                  rw [gon_step hcont] at hg
                  obtain ⟨z, hz⟩ : ∃ z, y - 128 = z := ⟨_, rfl⟩
                  have hz64 : z < 64 := by omega
                  rw [hz] at hand hg
                  have hor := or6 C z (by omega) hz64
                  obtain ⟨Z, hZ⟩ : ∃ Z, C * 64 + z = Z := ⟨_, rfl⟩
                  rw [hZ] at hor hg
                  have HB2 : Hid ((j + 1 = 1 → Z < 16) ∧ (j + 1 = 2 → Z < 1024) ∧ (j + 1 = 3 → Z < 65536) ∧ (j + 1 = 4 → Z < 4194304)) := Lib.hid (by
                    obtain ⟨q1, q2, q3, q4⟩ := hB
                    exact ⟨fun h => by omega, fun h => by omega, fun h => by omega, fun h => by omega⟩)
                  have HG := Lib.hid hg
                  clear hg hZ hz hyl hcont hB hy
                  go_wp2
                  exact ⟨⟨j + 1, Z, by omega, by omega, by go_num, by first | rfl | go_num | (rw [hor]), HG.out, HB2.out⟩, by simp [intOf]; omega⟩
                · have hcf : cont y = false := by simpa using hcont
                  rw [gon_stop hcf] at hg
                  have HN : Hid (NoT l) := Lib.hid (HNo.out (by rw [HR.out]; exact dec_gon_none HLD.out hg))
                  have hyl : ¬ (128 ≤ y ∧ y < 192) := fun h => hcont (by simp [cont, h])
                  have t1 : ((y : Int) / 64 != 2) = true := by simp; omega
                  have t2 : ((y : Int) / 2 ^ 6 != 2) = true := by simp; omega
                  clear hg hcont hcf hy hyl hB HNo HL HD HR HLD
                  go_wp2
                  go_ret
                  exact ⟨false, rfl, .inr ⟨rfl, HN.out⟩, hb⟩
              · obtain rfl : j = 3 := by omega
                have hCI : C < 65536 := by
                  obtain ⟨q1, q2, q3, q4⟩ := hB
                  omega
                rw [Nat.sub_self] at hg
                simp only [gon] at hg
                have hd := dec_gon_some (r := r.drop 1) HLD.out hg
                rw [← HR.out] at hd
                clear hg hB hjK hj1 hj2
                by_cases hf : C < 2048
                · have HN : Hid (NoT l) := Lib.hid (HNo.out (by rw [hd, fits_fu (fu_lt (by omega) (by simpa using hf))]; rfl))
                  have e1 : decide ((C : Int) < 2048) = true := by simp; omega
                  have hb6 := hb.alloc hs (.cells (vs .u32 [0, 0, 128, 2048, 65536]).toArray 36)
                  clear hd hf hCI hCb HNo HL HD HR HLD
                  go_wp2
                  go_ret
                  exact ⟨false, rfl, .inr ⟨rfl, HN.out⟩, hb6⟩
                by_cases hi : 1114111 < C
                · have HN : Hid (NoT l) := Lib.hid (HNo.out (by rw [hd, fits_isC (isC_no (.inl hi))]; rfl))
                  have e1 : decide ((C : Int) < 2048) = false := by simp; omega
                  have e2 : decide (1114111 < (C : Int)) = true := by simp; omega
                  have hb6 := hb.alloc hs (.cells (vs .u32 [0, 0, 128, 2048, 65536]).toArray 36)
                  clear hd hf hCI hCb hi HNo HL HD HR HLD
                  go_wp2
                  go_ret
                  exact ⟨false, rfl, .inr ⟨rfl, HN.out⟩, hb6⟩
                by_cases hgap : 55296 ≤ C ∧ C < 57344
                · have HN : Hid (NoT l) := Lib.hid (HNo.out (by rw [hd, fits_isC (isC_no (.inr hgap))]; rfl))
                  have e1 : decide ((C : Int) < 2048) = false := by simp; omega
                  have e2 : decide (1114111 < (C : Int)) = false := by simp; omega
                  have e3 : decide (55296 ≤ (C : Int)) = true := by simp; omega
                  have e4 : decide ((C : Int) < 57344) = true := by simp; omega
                  have hb6 := hb.alloc hs (.cells (vs .u32 [0, 0, 128, 2048, 65536]).toArray 36)
                  clear hd hf hCI hCb hi hgap HNo HL HD HR HLD
                  go_wp2
                  go_ret
                  exact ⟨false, rfl, .inr ⟨rfl, HN.out⟩, hb6⟩
                have hdec : dec r = some (C, 3) := by rw [hd, fits_yes (isC_iff.2 (by omega)) (by unfold fu; rw [if_neg (by omega), if_neg (by omega), if_pos (by omega)]), if_pos rfl]
                have e1 : decide ((C : Int) < 2048) = false := by simp; omega
                have e2 : decide (1114111 < (C : Int)) = false := by simp; omega
                have hKn : 3 ≤ n' := by omega
                clear hd HLD
                obtain e3 | ⟨e3, e4⟩ : decide (55296 ≤ (C : Int)) = false ∨ (decide (55296 ≤ (C : Int)) = true ∧ decide ((C : Int) < 57344) = false) := by simp; omega
                all_goals
                  clear hf hi hgap
                  obtain ⟨hC, hm, r', hrr⟩ := dec_inv hdec
                  obtain ⟨hle, hdrop⟩ := en_append_len hrr
                  rw [← hm] at hle hdrop
                  rw [hlen] at hle
                  obtain ⟨A1, c1, hc1, _, hs1, hs2, hrd⟩ := cut_from (some ⟨b, o, none⟩) n' c' 3 hle hnc'
                  have hr4 := hrd _ _ _ hr'
                  rw [hdrop] at hr4
                  have HL2 : Hid (l = txt (d ++ [C]) ++ r') := Lib.hid (by rw [HL.out, hrr, txt_append, txt_cons, txt_nil, List.append_nil, List.append_assoc])
                  have HD2 : Hid (AllC (d ++ [C])) := Lib.hid (HD.out.append (AllC.one hC))
                  clear hdec hrr hdrop hrd HL HD hC hm HNo HR
                  have hs1' := hs1 (wr.alloc (.cells #[.int .u32 0, .int .u32 0, .int .u32 128, .int .u32 2048, .int .u32 65536] 36)) (3 : Int) rfl
                  have hs2' := hs2 (wr.alloc (.cells #[.int .u32 0, .int .u32 0, .int .u32 128, .int .u32 2048, .int .u32 65536] 36)) (3 : Int) rfl
                  clear hs1 hs2
                  set_option maxRecDepth 4000 in
                  go_wp2
                  exact ⟨⟨A1, n' - 3, c1, d ++ [C], r', hc1, by omega, rfl, HD2.out, HL2.out, hr4.alloc hs _, hb.alloc hs _⟩, by simp [lenOf]; omega⟩
          by_cases hC4 : x < 248
          · have hlz : lz x = 4 := by unfold lz; rw [if_neg hA, if_neg hB, if_neg hC2, if_neg hC3, if_pos hC4]
            rw [hlz] at hke
            subst hke
            obtain ⟨c0, hc0⟩ : ∃ c0, c0 = x - 240 := ⟨_, rfl⟩
            have hld : ld x = some (3, c0) := by rw [hc0]; unfold ld; rw [if_neg hA, if_neg hB, if_neg hC2, if_neg hC3, if_pos hC4]
            have hcI : c0 < 8 := by omega
            have hq1 : (X : Int) / 16 = c0 := by rw [hX]; omega
            have hq2 : (X : Int) / 2 ^ 4 = c0 := by rw [hX]; omega
            have HLD := Lib.hid hld
            clear hlz hX hld hc0 hA hB hC2 hC3 hC4 hk8
            by_cases hsh : n' < 4
            · have HN : Hid (NoT l) := Lib.hid (HNo.out (by rw [HR.out]; exact dec_gon_none HLD.out (gon_short _ _ _ (by rw [List.length_drop]; omega))))
              have dS : decide ((n' : Int) < 4) = true := by simp; omega
              clear HNo HL HD HR HLD
              go_wp2
              go_ret
              exact ⟨false, rfl, .inr ⟨rfl, HN.out⟩, hb⟩
            have dS : decide ((n' : Int) < 4) = false := by simp; omega
            go_wp2
            go_loop [5, 6] (fun q i => ∃ j C : Nat, 1 ≤ j ∧ j ≤ 4 ∧ i = .int .i64 j ∧ q = .int .u32 C ∧ gon 3 c0 (r.drop 1) = gon (4 - j) C (r.drop j) ∧ ((j = 1 → C < 8) ∧ (j = 2 → C < 512) ∧ (j = 3 → C < 32768) ∧ (j = 4 → C < 2097152))) (fun _ i => 5 - (intOf i).toNat)
            case atStart => exact ⟨1, c0, by omega, by omega, rfl, rfl, rfl, ⟨fun _ => by omega, fun h => by omega, fun h => by omega, fun h => by omega⟩⟩
            case round =>
              obtain ⟨j, C, hj1, hj2, rfl, rfl, hg, hB⟩ := hrel
              have hCb : C < 8388608 := by
                obtain ⟨q1, q2, q3, q4⟩ := hB
                omega
              by_cases hjK : j < 4
              · obtain ⟨b', o', y, e, hbb', hy, hy2, hcy⟩ := hr'.at_ (k := j) (by omega)
                injection e with e
                injection e with e1 e2
                subst e1
                subst e2
                have hjI : (j : Int) < 4 := by omega
                have hjn : (j : Int) < n' := by omega
                rw [drop_at hy, show 4 - j = (4 - (j + 1)) + 1 by omega] at hg
                by_cases hcont : cont y = true
                · have hyl := cont_lt hcont
                  have t1 : ((y : Int) / 64 != 2) = false := by simp; omega
                  have t2 : ((y : Int) / 2 ^ 6 != 2) = false := by simp; omega
                  have hand := and63 y hy2 hcont
                  rw [gon_step hcont] at hg
                  obtain ⟨z, hz⟩ : ∃ z, y - 128 = z := ⟨_, rfl⟩
                  have hz64 : z < 64 := by omega
                  rw [hz] at hand hg
                  have hor := or6 C z (by omega) hz64
                  obtain ⟨Z, hZ⟩ : ∃ Z, C * 64 + z = Z := ⟨_, rfl⟩
                  rw [hZ] at hor hg
                  have HB2 : Hid ((j + 1 = 1 → Z < 8) ∧ (j + 1 = 2 → Z < 512) ∧ (j + 1 = 3 → Z < 32768) ∧ (j + 1 = 4 → Z < 2097152)) := Lib.hid (by
                    obtain ⟨q1, q2, q3, q4⟩ := hB
                    exact ⟨fun h => by omega, fun h => by omega, fun h => by omega, fun h => by omega⟩)
                  have HG := Lib.hid hg
                  clear hg hZ hz hyl hcont hB hy
                  go_wp2
                  exact ⟨⟨j + 1, Z, by omega, by omega, by go_num, by first | rfl | go_num | (rw [hor]), HG.out, HB2.out⟩, by simp [intOf]; omega⟩
                · have hcf : cont y = false := by simpa using hcont
                  rw [gon_stop hcf] at hg
                  have HN : Hid (NoT l) := Lib.hid (HNo.out (by rw [HR.out]; exact dec_gon_none HLD.out hg))
                  have hyl : ¬ (128 ≤ y ∧ y < 192) := fun h => hcont (by simp [cont, h])
                  have t1 : ((y : Int) / 64 != 2) = true := by simp; omega
                  have t2 : ((y : Int) / 2 ^ 6 != 2) = true := by simp; omega
                  clear hg hcont hcf hy hyl hB HNo HL HD HR HLD
                  go_wp2
                  go_ret
                  exact ⟨false, rfl, .inr ⟨rfl, HN.out⟩, hb⟩
              · obtain rfl : j = 4 := by omega
                have hCI : C < 2097152 := by
                  obtain ⟨q1, q2, q3, q4⟩ := hB
                  omega
                rw [Nat.sub_self] at hg
                simp only [gon] at hg
                have hd := dec_gon_some (r := r.drop 1) HLD.out hg
                rw [← HR.out] at hd
                clear hg hB hjK hj1 hj2
                by_cases hf : C < 65536
                · have HN : Hid (NoT l) := Lib.hid (HNo.out (by rw [hd, fits_fu (fu_lt (by omega) (by simpa using hf))]; rfl))
                  have e1 : decide ((C : Int) < 65536) = true := by simp; omega
                  have hb6 := hb.alloc hs (.cells (vs .u32 [0, 0, 128, 2048, 65536]).toArray 36)
                  clear hd hf hCI hCb HNo HL HD HR HLD
                  go_wp2
                  go_ret
                  exact ⟨false, rfl, .inr ⟨rfl, HN.out⟩, hb6⟩
                by_cases hi : 1114111 < C
                · have HN : Hid (NoT l) := Lib.hid (HNo.out (by rw [hd, fits_isC (isC_no (.inl hi))]; rfl))
                  have e1 : decide ((C : Int) < 65536) = false := by simp; omega
                  have e2 : decide (1114111 < (C : Int)) = true := by simp; omega
                  have hb6 := hb.alloc hs (.cells (vs .u32 [0, 0, 128, 2048, 65536]).toArray 36)
                  clear hd hf hCI hCb hi HNo HL HD HR HLD
                  go_wp2
                  go_ret
                  exact ⟨false, rfl, .inr ⟨rfl, HN.out⟩, hb6⟩
                by_cases hgap : 55296 ≤ C ∧ C < 57344
                · have HN : Hid (NoT l) := Lib.hid (HNo.out (by rw [hd, fits_isC (isC_no (.inr hgap))]; rfl))
                  have e1 : decide ((C : Int) < 65536) = false := by simp; omega
                  have e2 : decide (1114111 < (C : Int)) = false := by simp; omega
                  have e3 : decide (55296 ≤ (C : Int)) = true := by simp; omega
                  have e4 : decide ((C : Int) < 57344) = true := by simp; omega
                  have hb6 := hb.alloc hs (.cells (vs .u32 [0, 0, 128, 2048, 65536]).toArray 36)
                  clear hd hf hCI hCb hi hgap HNo HL HD HR HLD
                  go_wp2
                  go_ret
                  exact ⟨false, rfl, .inr ⟨rfl, HN.out⟩, hb6⟩
                have hdec : dec r = some (C, 4) := by rw [hd, fits_yes (isC_iff.2 (by omega)) (by unfold fu; rw [if_neg (by omega), if_neg (by omega), if_neg (by omega)]), if_pos rfl]
                have e1 : decide ((C : Int) < 65536) = false := by simp; omega
                have e2 : decide (1114111 < (C : Int)) = false := by simp; omega
                have hKn : 4 ≤ n' := by omega
                clear hd HLD
                obtain e3 | ⟨e3, e4⟩ : decide (55296 ≤ (C : Int)) = false ∨ (decide (55296 ≤ (C : Int)) = true ∧ decide ((C : Int) < 57344) = false) := by simp; omega
                all_goals
                  clear hf hi hgap
                  obtain ⟨hC, hm, r', hrr⟩ := dec_inv hdec
                  obtain ⟨hle, hdrop⟩ := en_append_len hrr
                  rw [← hm] at hle hdrop
                  rw [hlen] at hle
                  obtain ⟨A1, c1, hc1, _, hs1, hs2, hrd⟩ := cut_from (some ⟨b, o, none⟩) n' c' 4 hle hnc'
                  have hr4 := hrd _ _ _ hr'
                  rw [hdrop] at hr4
                  have HL2 : Hid (l = txt (d ++ [C]) ++ r') := Lib.hid (by rw [HL.out, hrr, txt_append, txt_cons, txt_nil, List.append_nil, List.append_assoc])
                  have HD2 : Hid (AllC (d ++ [C])) := Lib.hid (HD.out.append (AllC.one hC))
                  clear hdec hrr hdrop hrd HL HD hC hm HNo HR
                  have hs1' := hs1 (wr.alloc (.cells #[.int .u32 0, .int .u32 0, .int .u32 128, .int .u32 2048, .int .u32 65536] 36)) (4 : Int) rfl
                  have hs2' := hs2 (wr.alloc (.cells #[.int .u32 0, .int .u32 0, .int .u32 128, .int .u32 2048, .int .u32 65536] 36)) (4 : Int) rfl
                  clear hs1 hs2
                  set_option maxRecDepth 4000 in
                  go_wp2
                  exact ⟨⟨A1, n' - 4, c1, d ++ [C], r', hc1, by omega, rfl, HD2.out, HL2.out, hr4.alloc hs _, hb.alloc hs _⟩, by simp [lenOf]; omega⟩
          have hlz : 5 ≤ lz x := by unfold lz; rw [if_neg hA, if_neg hB, if_neg hC2, if_neg hC3, if_neg hC4]; (repeat' split) <;> omega
          have HN : Hid (NoT l) := Lib.hid (HNo.out (by rw [HR.out]; exact dec_lead (by unfold ld; rw [if_neg hA, if_neg hB, if_neg hC2, if_neg hC3, if_neg hC4])))
          have hk5 : 5 ≤ k := by omega
          have u1 : ((k : Int) == 1) = false := by simp; omega
          have u2 : decide (4 < (k : Int)) = true := by simp; omega
          clear hke hlz hX HNo HL HD HR hA hB hC2 hC3 hC4
          go_wp2
          go_ret
          exact ⟨false, rfl, .inr ⟨rfl, HN.out⟩, hb⟩
end Go.Proofs.YthplkkpcpkdbiaaDoor.Utf
