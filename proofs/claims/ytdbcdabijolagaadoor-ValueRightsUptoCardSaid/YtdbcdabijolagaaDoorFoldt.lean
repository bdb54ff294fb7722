/-
  Contract of fold at int. Memory that was there stays. Condition: a value of bulk at most 2^30.
-/
import Derived.Test.YtdbcdabijolagaaDoorFoldm
namespace Go.Proofs.YtdbcdabijolagaaDoor.Val
open Go.RowKit Go.Proofs.YtdbcdabijolagaaDoor.Utf V

set_option maxRecDepth 100000 in
set_option maxHeartbeats 1000000 in
theorem foldT_any (F : Nat → Nat → Nat) (hP : PutI F 43) (k n : Nat) (t : ByteArray) (ks : List V) (A : Option Addr) (l c : Nat) (w : World) (hN : bulkL ks ≤ 1073741824) (hK : Kd w ks A l c) :
    Calls Tryd.prog 40 #[.agg #[.int .u8 k, .int .u64 n, .string t, .slice A l c], .func (.func 41) #[] #[], .func (.func 43) #[] #[]] w fun e w' => e = .returned (.int .i64 ((foldI F (.mk k n t ks) : Nat) : Int)) ∧ Below w.heap.size w w' := by
  have hb0 := Box.new w (.int .u8 k) (.int .u64 n) (.string t) (.slice A l c)
  have hB0 : Below w.heap.size w (w.alloc (.cells #[.int .u8 k, .int .u64 n, .string t, .slice A l c] 25)) := (Below.refl _ _).alloc (Nat.le_refl _) _
  have hil := itemsL_le ks
  have hIS : IS F w (((w.alloc (.cells #[.int .u8 k, .int .u64 n, .string t, .slice A l c] 25)).alloc (.cells #[.int .u8 k, .int .u64 n, .string t, .slice A l c] 25)).alloc (.cells #[.slice A l c, .int .i64 1] 66)) (some ⟨w.heap.size + 1 + 1, 0, none⟩) 1 1 [] ⟨A, l, c, ks⟩ 1 (foldI F (.mk k n t ks)) (2 * itemsL ks + 1) := by
    have hB1 := hB0.alloc (by simp) (.cells #[.int .u8 k, .int .u64 n, .string t, .slice A l c] 25)
    have hB2 := hB1.alloc (by simp; omega) (.cells #[.slice A l c, .int .i64 1] 66)
    refine ⟨rfl, ?_, fun p hp => ?_, by simp [goI, foldI], by simp [iweight], by simp [isum]; omega, hB2, by omega⟩
    · have := World.ownsRow_lit (e := 66) (size := 2) (base := w.heap.size) ((w.alloc (.cells #[.int .u8 k, .int .u64 n, .string t, .slice A l c] 25)).alloc (.cells #[.int .u8 k, .int .u64 n, .string t, .slice A l c] 25)) #[.slice A l c, .int .i64 1] 1 (by simp; omega) (by unfold maxLen; omega) rfl
      simpa [iflat, SE.val] using this
    · simp at hp
      subst hp
      exact ⟨Kids.keep hK (fun i hi => hB2.block i hi), Nat.le_refl _⟩
  go_enter Tryd.func40, Tryd.ntmps40
  go_upto_region 1 with fail
  go_cut [7] (fun s7 wx => ∃ g, s7 = .slice (some ⟨g, 0, none⟩) 1 1 ∧ IS F w wx (some ⟨g, 0, none⟩) 1 1 [] ⟨A, l, c, ks⟩ 1 (foldI F (.mk k n t ks)) (2 * itemsL ks + 1))
  case first =>
    go_region_with ((go_at_call 41; refine (one_any k n t A l c _).mono ?_; rintro e w' ⟨rfl, rfl⟩))
    all_goals (go_wp2_with fail; go_meet; exact ⟨_, rfl, by first | exact hIS | exact hIS.drew⟩)
  case rest =>
    obtain ⟨g0, rfl, hI0⟩ := hcut
    clear hIS hb0 hB0
    go_wp2
    go_loopg [7] (2 * itemsL ks + 1) (fun g s wr => ∃ A1 n1 c1 rest x s1, s = .slice A1 n1 c1 ∧ IS F w wr A1 n1 c1 rest x s1 (foldI F (.mk k n t ks)) g)
    case atStart => exact ⟨_, _, _, _, _, _, rfl, hI0⟩
    case round =>
      obtain ⟨A1, n1, c1, rest, x, s1, rfl, hS⟩ := hrel
      clear hI0
      obtain ⟨m, rfl⟩ : ∃ m, n1 = m + 1 := ⟨n1 - 1, by have := hS.len; omega⟩
      have hlen : rest.length = m := by have := hS.len; omega
      obtain ⟨G, rfl, hG1, hG2⟩ := own_form hS.own (by omega)
      have hsm := hS.small
      have hgk : 1 ≤ gk := by omega
      have own := hS.own
      have hfl : (iflat rest).length = m * 2 := by rw [iflat_len, hlen]
      rw [iflat_append, iflat_one] at own
      have ct0 : wr.cell? ⟨G, m * 2, none⟩ = some x.val := by rw [own.cellAt (m * 2) (by omega), List.getElem?_append_right (by omega), hfl]; simp
      have ct1 : wr.cell? ⟨G, m * 2 + 1, none⟩ = some (.int .i64 (s1 : Int)) := by rw [own.cellAt (m * 2 + 1) (by omega), List.getElem?_append_right (by omega), hfl]; simp
      have fz : ∀ j, wr.frozen? ⟨G, j, none⟩ = false := own.frozenAt
      have hcap := own_cap own
      obtain ⟨hx, hs1⟩ := hS.ok (x, s1) (by simp)
      have hsb : s1 ≤ 1073741825 := by have := hS.sum; rw [isum_snoc] at this; omega
      obtain ⟨xA, xl, xc, xk⟩ := x
      simp only [SE.val] at ct0 ct1 hx hs1 own
      have HL := Lib.hid hlen
      have HF := Lib.hid hfl
      clear hlen hfl
      rcases Nat.eq_zero_or_pos xl with rfl | hxl
      · rcases Nat.eq_zero_or_pos m with rfl | hm
        · have hr : rest = [] := List.eq_nil_of_length_eq_zero HL.out
          subst hr
          have hxk : xk = [] := List.eq_nil_of_length_eq_zero hx.len.symm
          subst hxk
          have hq := hS.hq
          simp only [goI, List.foldr_nil, finI] at hq
          have HQ := Lib.hid hq
          have hb := hS.below
          clear hq hS own
          go_wp2
          go_ret
          exact ⟨ret_int (by rw [HQ.out]), hb⟩
        · obtain ⟨m', rfl⟩ : ∃ m', m = m' + 1 := ⟨m - 1, by omega⟩
          obtain ⟨rest0, x', s0, rfl⟩ : ∃ rest0 x' s0, rest = rest0 ++ [(x', s0)] := by
            have hne : rest ≠ [] := fun e => by have := HL.out; rw [e] at this; simp at this
            exact ⟨rest.dropLast, (rest.getLast hne).1, (rest.getLast hne).2, by have := List.dropLast_concat_getLast hne; exact this.symm⟩
          have hl0 : rest0.length = m' := by have := HL.out; simp at this; omega
          have hfl0 : (iflat rest0).length = m' * 2 := by rw [iflat_len, hl0]
          have ca1 : wr.cell? ⟨G, m' * 2 + 1, none⟩ = some (.int .i64 (s0 : Int)) := by
            rw [own.cellAt (m' * 2 + 1) (by omega), iflat_append, iflat_one, List.append_assoc, List.getElem?_append_right (by omega), hfl0, show m' * 2 + 1 - m' * 2 = 1 by omega]; rfl
          have hs0 : s0 ≤ 1073741825 := by have := hS.sum; rw [isum_snoc, isum_snoc] at this; omega
          have hpop := hS.pop hP.le hl0 hG1 rfl
          have hcall := hP.call s0 s1 (by omega) (by omega)
          obtain ⟨hq1, hq2⟩ := cut_top Tryd.underlying67 (show Tryd.prog.elem 67 = 66 by kernel_rfl) (show (Tryd.prog.info? 66).map (·.size) = some 2 by kernel_rfl) (some ⟨G, 0, none⟩) (m' + 1 + 1) c1 (m' + 1) (by omega) hcap
          have hs1' := fun W => hq1 W ((m' : Int) + 1) (by simp)
          have hs2' := fun W => hq2 W ((m' : Int) + 1) (by simp)
          clear hq1 hq2 hl0 hfl0 hS own
          have HC := Lib.hid hcall
          clear hcall
          go_wp2_with fail
          go_region_with ((go_at_call 43; refine (HC.out _).mono ?_; rintro e w' ⟨rfl, rfl⟩))
          all_goals
            go_wp2
            go_roundg (gk - 1)
            case measure => omega
            case rel => exact ⟨_, _, _, _, _, _, rfl, hpop.drew⟩
      · obtain ⟨b, o, k1, n1, t1, ks1, B1, l1, d1, rfl, hb1, hx1, h0, h1, h2, h3, hk1, hn1, hK1⟩ := Kids.at_ hx hxl
        simp only [Nat.zero_mul, Nat.add_zero] at h0 h1 h2 h3
        have hsz := hS.below.size
        have hbw : b < wr.heap.size := Nat.lt_of_lt_of_le hb1 hsz
        have hxI : (0 : Int) < (xl : Int) := by omega
        have HX1 := Lib.hid hx1
        obtain ⟨C1, e1, he1, hsx1, hsx2, hsx3⟩ := cut_vals (some ⟨b, o, none⟩) xl xc 1 (by omega) hx.cap
        have sx1 := fun W => hsx1 W 1 rfl
        have sx2 := fun W => hsx2 W 1 rfl
        clear hsx1 hsx2 hx1 hN
        obtain ⟨xt, hxt⟩ : ∃ xt, xk.drop 1 = xt := ⟨_, rfl⟩
        have HXT := Lib.hid hxt
        clear hxt
        obtain ⟨wy, hwy⟩ : ∃ wy, wy = wr.setCell ⟨G, m * 2, none⟩ (.slice C1 (xl - 1) e1) := ⟨_, rfl⟩
        have hby : Below w.heap.size wr wy := by rw [hwy]; exact (Below.refl _ _).setCell (p := ⟨G, m * 2, none⟩) hG1 _
        have hown5 : wy.ownsRow w.heap.size 66 2 (.slice (some ⟨G, 0, none⟩) (m + 1) c1) (m + 1) (iflat rest ++ [.slice C1 (xl - 1) e1, .int .i64 (s1 : Int)]) := by
          have := (hS.own.stored (m * 2) (.slice C1 (xl - 1) e1)).1
          rw [iset0 rest _ s1 m HL.out] at this
          rw [hwy]
          exact this
        have hszy : w.heap.size ≤ wy.heap.size := by have := hby.size; omega
        have hm4 : m + 1 ≤ 4294967296 := by omega
        have HOB := Lib.hid (fun k (hk : (Value.slice (some ⟨G, 0, none⟩) (m + 1) c1).ownBlock = some k) => (hown5.lt k hk).1)
        have hbW := ((hby.alloc hszy (.cells #[.int .u8 k1, .int .u64 n1, .string t1, .slice B1 l1 d1] 25)).alloc (by simp; omega) (.cells #[.int .u8 k1, .int .u64 n1, .string t1, .slice B1 l1 d1] 25)).alloc (by simp; omega) (.cells #[.slice B1 l1 d1, .int .i64 1] 66)
        obtain ⟨i0, hi, hz0, hz1, hz2⟩ := info_parts infoStepI
        go_upto_region 7 with fail
        rw [← hwy, show wr.heap.size = wy.heap.size by rw [hwy]; simp]
        have HWY := Lib.hid hwy
        clear hwy
        go_cut [7] (fun s7 wx => ∃ g9 cap9, s7 = .slice (some ⟨g9, 0, none⟩) (m + 1 + 1) cap9 ∧ wx.ownsRow w.heap.size 66 2 (.slice (some ⟨g9, 0, none⟩) (m + 1 + 1) cap9) (m + 1 + 1) (iflat rest ++ [.slice C1 (xl - 1) e1, .int .i64 (s1 : Int)] ++ [.slice B1 l1 d1, .int .i64 1]) ∧ Below w.heap.size wr wx)
        case first =>
          go_region_law (first
            | (refine step_append_lies _ rfl _ _ 67 rfl w.heap.size 66 i0 _ 2 32 Tryd.underlying67 hi hz0 hz1 hz2 rfl (by omega) _ _ _ rfl (by exact ((hown5.alloc _).alloc _).alloc _) ⟨wy.heap.size + 1 + 1, 0, none⟩ 1 1 [.slice B1 l1 d1, .int .i64 1] rfl rfl (by exact news_at _ _ _ _ _ (by simp)) (fun u hu => (by simp at hu; rcases hu with rfl | rfl <;> rfl)) (by omega) (by unfold maxLen; omega) (by omega) (by simp; omega) _ rfl ?_; intro g9 cap9 w9 hown9 hgrow9 _ _)
            | (go_simp; go_at_call 41; refine (one_any k1 n1 t1 B1 l1 d1 _).mono ?_; rintro e w' ⟨rfl, rfl⟩))
          all_goals
            go_wp2_with fail
            go_meet
            exact ⟨g9, cap9, rfl, hown9, Below.grown (by first | exact hbW | exact hbW.drew) hgrow9 (by simp; omega) HOB.out⟩
        case rest =>
          obtain ⟨g9, cap9, rfl, hown9, hb9⟩ := hcut
          have hpush := hS.push (x2 := ⟨C1, xl - 1, e1, xt⟩) (y := ⟨B1, l1, d1, ks1⟩) ((HXT.out ▸ hsx3 _ _ _ _ hx : Kids false wr (fun i => i < w.heap.size) xt C1 (xl - 1) e1).keep fun i hi => hb9.block i hi) (hK1.keep fun i hi => hb9.block i hi) (by have := drop_at HX1.out; rw [List.drop_zero, HXT.out] at this; exact this) hown9 hb9
          clear hS own hown5 hown9 hb9 hby hbW
          go_wp2
          go_roundg (gk - 1)
          case measure => omega
          case rel => exact ⟨_, _, _, _, _, _, rfl, hpush⟩
end Go.Proofs.YtdbcdabijolagaaDoor.Val
