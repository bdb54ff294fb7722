/-
  Contract of the document's Read of a frame (layer 11). Memory that was there stays; the body lies in new memory. Condition: at most 2^40 bytes.
-/
import Derived.Test.YtdjncacknmejoaaFrk
namespace Go.Proofs.Ytdjncacknmejoaa.Fr
set_option maxRecDepth 100000
open Go.RowKit Go.Proofs.Ytdjncacknmejoaa.Utf Go.Proofs.Ytdjncacknmejoaa.Enc

set_option maxHeartbeats 4000000 in
theorem xread_any (A : Option Addr) (n c : Nat) (b : List Nat) (most : Nat) (w : World) (hr : Rd .u8 256 w w.heap.size A n b) (hnc : n ≤ c) (hn : n ≤ 1099511627776) (hm : most < 4294967296) : Calls Try.prog 33 #[.slice A n c, .int .u32 (most : Int)] w (GivesRead b most w) := by
  have hl := hr.len
  have hb0 : Below w.heap.size w (w.alloc (.cells #[.int .u16 0, .slice none 0 0] 39)) := ba (Below.refl _ _) _
  have hx0 : BxF (w.alloc (.cells #[.int .u16 0, .slice none 0 0] 39)) w.heap.size 0 none 0 0 := heap_alloc_new w _
  have hr0 := hr.below hb0
  have HB0 := Lib.hid hb0
  have HX0 := Lib.hid hx0
  have HR0 := Lib.hid hr0
  have hwm : IntKind.u64.wrap (most : Int) = (most : Int) := by simp only [IntKind.wrap, IntKind.bits, IntKind.signed]; simp; omega
  have hwn : IntKind.u64.wrap (n : Int) = (n : Int) := by simp only [IntKind.wrap, IntKind.bits, IntKind.signed]; simp; omega
  have hlim := hr.lim
  have HLIM := Lib.hid hlim
  clear hb0 hx0 hr0 hlim
  by_cases l4 : n < 4
  · have HE : Hid (erF b most = 7) := Lib.hid (by unfold erF; rw [hl, if_pos l4])
    have HT4 : Hid True := Lib.hid trivial
    clear hr hl
    go_enter Try.func33, Try.ntmps33
    go_wp2
    refine bodyPost_ret (v := .tuple #[.agg #[.int .u16 0, .slice none 0 0], .int .i64 0, .int .i64 7]) (by simp [results, Try.results33, go_sem]) rfl ?_
    unfold GivesRead
    rw [HE.out, if_neg (by omega)]
    exact ⟨rfl, HB0.out⟩
  obtain ⟨q1, q2⟩ := cut_to A n c 4 (by omega) hnc
  have q1' := fun W => q1 W 4 rfl
  have q2' := fun W => q2 W 4 rfl
  have t4 : tn (b.take 4) = nb (b.take 4) := by unfold tn; rw [if_pos (by rw [List.length_take]; omega)]
  have hS : nb (b.take 4) < 4294967296 := by
    have h1 := nb_lt (b.take 4) fun x hx => hr.lim x (List.mem_of_mem_take hx)
    have h2 : (b.take 4).length = 4 := by rw [List.length_take]; omega
    rw [h2] at h1
    omega
  have en : nF b = nb (b.take 4) := rfl
  have HEN := Lib.hid en
  have hE0 : erF b most = if nb (b.take 4) < 8 ∨ most < nb (b.take 4) then 6 else if n < 5 then 7 else if b.getD 4 0 < 2 ∨ nb (b.take 4) < 4 * b.getD 4 0 then 6 else if n < 6 then 7 else if b.getD 5 0 ≠ 0 then 6 else if n < nb (b.take 4) then 7 else 0 := by unfold erF; rw [hl, if_neg l4]
  have hT4 : ∀ (wx : World), wx = w.alloc (.cells #[.int .u16 0, .slice none 0 0] 39) → Calls Try.prog 40 #[.slice A 4 c] wx fun e w' => (∃ p : Value, e = .returned (.tuple #[.int .u64 (nb (b.take 4) : Nat), p])) ∧ wx = w' := fun wx e => by
    subst e
    have := xtell_any w.heap.size A 4 c (b.take 4) _ (HR0.out.take (k := 4) (by omega))
    rwa [t4] at this
  have HT4 := Lib.hid (hT4 _ rfl)
  have d4 : decide ((n : Int) < 4) = false := by simp; omega
  clear hT4 t4 q1 q2 en
  generalize hSS : nb (b.take 4) = S at *
  have HSS := Lib.hid hSS
  clear hSS
  by_cases s1 : S < 8
  · have HE : Hid (erF b most = 6) := Lib.hid (by rw [hE0, if_pos (Or.inl s1)])
    have g1 : decide ((S : Int) < 8) = true := by simp; omega
    clear hr hl hE0
    go_enter Try.func33, Try.ntmps33
    go_wp2_with (go_at_call 40; (with_reducible refine HT4.out.mono ?_); rintro e w1 ⟨⟨p1, rfl⟩, rfl⟩)
    refine bodyPost_ret (v := .tuple #[.agg #[.int .u16 0, .slice none 0 0], .int .i64 0, .int .i64 6]) (by simp [results, Try.results33, go_sem]) rfl ?_
    unfold GivesRead
    rw [HE.out, if_neg (by omega)]
    exact ⟨rfl, HB0.out⟩
  by_cases s2 : most < S
  · have HE : Hid (erF b most = 6) := Lib.hid (by rw [hE0, if_pos (Or.inr s2)])
    have g1 : decide ((S : Int) < 8) = false := by simp; omega
    have g2 : decide ((most : Int) < (S : Int)) = true := by simp; omega
    clear hr hl hE0
    go_enter Try.func33, Try.ntmps33
    go_wp2_with (go_at_call 40; (with_reducible refine HT4.out.mono ?_); rintro e w1 ⟨⟨p1, rfl⟩, rfl⟩)
    refine bodyPost_ret (v := .tuple #[.agg #[.int .u16 0, .slice none 0 0], .int .i64 0, .int .i64 6]) (by simp [results, Try.results33, go_sem]) rfl ?_
    unfold GivesRead
    rw [HE.out, if_neg (by omega)]
    exact ⟨rfl, HB0.out⟩
  have g1 : decide ((S : Int) < 8) = false := by simp; omega
  have g2 : decide ((most : Int) < (S : Int)) = false := by simp; omega
  rw [if_neg (by omega)] at hE0
  by_cases l5 : n < 5
  · have HE : Hid (erF b most = 7) := Lib.hid (by rw [hE0, if_pos l5])
    have g3 : decide ((n : Int) < 5) = true := by simp; omega
    clear hr hl hE0
    go_enter Try.func33, Try.ntmps33
    go_wp2_with (go_at_call 40; (with_reducible refine HT4.out.mono ?_); rintro e w1 ⟨⟨p1, rfl⟩, rfl⟩)
    refine bodyPost_ret (v := .tuple #[.agg #[.int .u16 0, .slice none 0 0], .int .i64 0, .int .i64 7]) (by simp [results, Try.results33, go_sem]) rfl ?_
    unfold GivesRead
    rw [HE.out, if_neg (by omega)]
    exact ⟨rfl, HB0.out⟩
  have g3 : decide ((n : Int) < 5) = false := by simp; omega
  rw [if_neg l5] at hE0
  obtain ⟨p, hp⟩ : ∃ p, b.getD 4 0 = p := ⟨_, rfl⟩
  rw [hp] at hE0
  have HP := Lib.hid hp
  obtain ⟨bb, o, p', hA, hbb, hx4, hp256, hc4⟩ := HR0.out.at_ (k := 4) (by omega)
  obtain rfl : p = p' := by rw [← hp, List.getD_eq_getElem?_getD, hx4]; rfl
  have HA := Lib.hid hA
  subst hA
  have j0 : (4 : Int) < (n : Int) := by omega
  have kp : IntKind.u64.wrap (p : Int) = (p : Int) := by simp only [IntKind.wrap, IntKind.bits, IntKind.signed]; simp; omega
  clear hx4 hp
  by_cases p1 : p < 2
  · have HE : Hid (erF b most = 6) := Lib.hid (by rw [hE0, if_pos (Or.inl p1)])
    have g4 : decide ((p : Int) < 2) = true := by simp; omega
    clear hr hl hE0
    go_enter Try.func33, Try.ntmps33
    go_wp2_with (go_at_call 40; (with_reducible refine HT4.out.mono ?_); rintro e w1 ⟨⟨p1, rfl⟩, rfl⟩)
    refine bodyPost_ret (v := .tuple #[.agg #[.int .u16 0, .slice none 0 0], .int .i64 0, .int .i64 6]) (by simp [results, Try.results33, go_sem]) rfl ?_
    unfold GivesRead
    rw [HE.out, if_neg (by omega)]
    exact ⟨rfl, HB0.out⟩
  have g4 : decide ((p : Int) < 2) = false := by simp; omega
  by_cases p2 : S < 4 * p
  · have HE : Hid (erF b most = 6) := Lib.hid (by rw [hE0, if_pos (Or.inr p2)])
    clear hr hl hE0
    go_enter Try.func33, Try.ntmps33
    go_wp2_with (go_at_call 40; (with_reducible refine HT4.out.mono ?_); rintro e w1 ⟨⟨p1, rfl⟩, rfl⟩)
    refine bodyPost_ret (v := .tuple #[.agg #[.int .u16 0, .slice none 0 0], .int .i64 0, .int .i64 6]) (by simp [results, Try.results33, go_sem]) rfl ?_
    unfold GivesRead
    rw [HE.out, if_neg (by omega)]
    exact ⟨rfl, HB0.out⟩
  rw [if_neg (by omega)] at hE0
  by_cases l6 : n < 6
  · have HE : Hid (erF b most = 7) := Lib.hid (by rw [hE0, if_pos l6])
    have g5 : decide ((n : Int) < 6) = true := by simp; omega
    clear hr hl hE0
    go_enter Try.func33, Try.ntmps33
    go_wp2_with (go_at_call 40; (with_reducible refine HT4.out.mono ?_); rintro e w1 ⟨⟨p1, rfl⟩, rfl⟩)
    refine bodyPost_ret (v := .tuple #[.agg #[.int .u16 0, .slice none 0 0], .int .i64 0, .int .i64 7]) (by simp [results, Try.results33, go_sem]) rfl ?_
    unfold GivesRead
    rw [HE.out, if_neg (by omega)]
    exact ⟨rfl, HB0.out⟩
  have g5 : decide ((n : Int) < 6) = false := by simp; omega
  rw [if_neg l6] at hE0
  obtain ⟨t, ht⟩ : ∃ t, b.getD 5 0 = t := ⟨_, rfl⟩
  rw [ht] at hE0
  obtain ⟨bb2, o2, t', hA2, _, hx5, ht256, hc5⟩ := HR0.out.at_ (k := 5) (by omega)
  obtain rfl : t = t' := by rw [← ht, List.getD_eq_getElem?_getD, hx5]; rfl
  injection hA2 with hA2
  injection hA2 with h1 h2
  subst h1
  subst h2
  have j1 : (5 : Int) < (n : Int) := by omega
  clear hx5 ht
  by_cases t0 : t ≠ 0
  · have HE : Hid (erF b most = 6) := Lib.hid (by rw [hE0, if_pos t0])
    have g6 : ((t : Int) != 0) = true := by simp; omega
    clear hr hl hE0
    go_enter Try.func33, Try.ntmps33
    go_wp2_with (go_at_call 40; (with_reducible refine HT4.out.mono ?_); rintro e w1 ⟨⟨p1, rfl⟩, rfl⟩)
    refine bodyPost_ret (v := .tuple #[.agg #[.int .u16 0, .slice none 0 0], .int .i64 0, .int .i64 6]) (by simp [results, Try.results33, go_sem]) rfl ?_
    unfold GivesRead
    rw [HE.out, if_neg (by omega)]
    exact ⟨rfl, HB0.out⟩
  have g6 : ((t : Int) != 0) = false := by simp; omega
  rw [if_neg t0] at hE0
  have kS : IntKind.u64.wrap (S : Int) = (S : Int) := by simp only [IntKind.wrap, IntKind.bits, IntKind.signed]; simp; omega
  by_cases ls : n < S
  · have HE : Hid (erF b most = 7) := Lib.hid (by rw [hE0, if_pos ls])
    clear hr hl hE0 t0
    go_enter Try.func33, Try.ntmps33
    go_wp2_with (go_at_call 40; (with_reducible refine HT4.out.mono ?_); rintro e w1 ⟨⟨p1, rfl⟩, rfl⟩)
    refine bodyPost_ret (v := .tuple #[.agg #[.int .u16 0, .slice none 0 0], .int .i64 0, .int .i64 7]) (by simp [results, Try.results33, go_sem]) rfl ?_
    unfold GivesRead
    rw [HE.out, if_neg (by omega)]
    exact ⟨rfl, HB0.out⟩
  rw [if_neg ls] at hE0
  have HE := Lib.hid hE0
  obtain ⟨P, hP⟩ : ∃ P, 4 * p = P := ⟨_, rfl⟩
  have hPi : 4 * (p : Int) = (P : Int) := by omega
  have hPS : P ≤ S := by omega
  have hPw : IntKind.u64.wrap (P : Int) = (P : Int) := by simp only [IntKind.wrap, IntKind.bits, IntKind.signed]; simp; omega
  have hSw : IntKind.i64.wrap (S : Int) = (S : Int) := by rw [IntKind.wrap_i64]; omega
  rw [hP] at p2
  have HBD : Hid (bodyF b = (b.drop P).take (S - P)) := Lib.hid (by unfold bodyF; rw [HEN.out, HP.out, hP])
  obtain ⟨A5, c5, hc5', q5, q6, hcut5⟩ := cut_mix .i64 .i64 (some ⟨bb, o, none⟩) n c 6 8 (by omega) (by omega) hnc
  obtain ⟨A7, c7, hc7', q7, q8, hcut7⟩ := cut_mix .u64 .u64 (some ⟨bb, o, none⟩) n c P S hPS (by omega) hnc
  have q5' : ∀ W : World, (Instr.slice 24 (.slice (some ⟨bb, o, none⟩) n c) (some (.int .i64 6)) (some (.int .i64 8)) none).run Try.prog W = .ok (.slice A5 2 c5) W := fun W => q5 W
  have q6' : ∀ W : World, (Instr.sliceAt 24 (.slice (some ⟨bb, o, none⟩) n c) (some (.int .i64 6)) (some (.int .i64 8)) none).run Try.prog W = .ok (.slice A5 2 c5) W := fun W => q6 W
  obtain ⟨C, hC⟩ : ∃ C, nb ((b.drop 6).take 2) = C := ⟨_, rfl⟩
  have hlen2 : ((b.drop 6).take 2).length = 2 := by rw [List.length_take, List.length_drop]; omega
  have hC16 : C < 65536 := by
    have h1 := nb_lt ((b.drop 6).take 2) fun x hx => HLIM.out x (List.mem_of_mem_drop (List.mem_of_mem_take hx))
    rw [hlen2, hC] at h1
    exact h1
  have t2 : tn ((b.drop 6).take 2) = C := by unfold tn; rw [if_pos (by omega), hC]
  have hC2 := HR0.out
  have HT2 : Hid (Calls Try.prog 40 #[.slice A5 2 c5] (w.alloc (.cells #[.int .u16 0, .slice none 0 0] 39)) fun e w' => (∃ p : Value, e = .returned (.tuple #[.int .u64 (C : Nat), p])) ∧ (w.alloc (.cells #[.int .u16 0, .slice none 0 0] 39)) = w') := Lib.hid (by
    have := xtell_any w.heap.size A5 2 c5 ((b.drop 6).take 2) _ (hcut5 _ _ _ HR0.out)
    rwa [t2] at this)
  have hCw : IntKind.u16.wrap (C : Int) = (C : Int) := by simp only [IntKind.wrap, IntKind.bits, IntKind.signed]; simp; omega
  have HCC : Hid (chF b = C) := Lib.hid hC
  obtain ⟨m, hm7⟩ : ∃ m, S - P = m := ⟨_, rfl⟩
  have hr7 := hcut7 _ _ _ HR0.out
  rw [hm7] at q7 q8 hr7 HBD hc7'
  have hr7' := hr7.mono (show w.heap.size ≤ (w.alloc (.cells #[.int .u16 0, .slice none 0 0] 39)).heap.size by simp)
  have HK := Lib.hid (copy_any A7 m c7 _ _ hr7' (by omega))
  have hbl : (bodyF b).length = m := by rw [HBD.out]; exact hr7.len
  have HBL := Lib.hid hbl
  clear hr hl hE0 q5 q6 hcut5 hcut7 t2 hC hlen2 hC2 hr7 hr7' hbl hP t0 hm7
  go_enter Try.func33, Try.ntmps33
  go_wp2_with (first
    | (go_at_call 40; (with_reducible refine HT4.out.mono ?_); rintro e w1 ⟨⟨p1, rfl⟩, rfl⟩)
    | (go_at_call 40; (with_reducible refine HT2.out.mono ?_); rintro e w1 ⟨⟨p1', rfl⟩, rfl⟩)
    | (go_at_call 41; (with_reducible refine HK.out.mono ?_); rintro e w2 ⟨A2, n2, c2, rfl, ho2, hb2⟩; obtain ⟨x0, x1, _, hg2⟩ := (HX0.out.call hb2).all)
    | fail)
  have hn2 : m = n2 := by
    have h1 := ho2.len
    rw [← HBD.out, HBL.out] at h1
    exact h1
  subst hn2
  rw [← HBD.out] at ho2
  refine bodyPost_ret (v := .tuple #[.agg #[.int .u16 (C : Int), .slice A2 m c2], .int .i64 (S : Int), .int .i64 0]) (by simp [results, Try.results33, go_sem, x0, x1]) rfl ?_
  unfold GivesRead
  rw [if_pos HE.out, HBL.out, HEN.out, HCC.out]
  have hlt : w.heap.size < (w.alloc (.cells #[.int .u16 0, .slice none 0 0] 39)).heap.size := by simp
  exact ⟨A2, c2, rfl, Own.mono (own_setBelow (own_setBelow ho2 hlt _) hlt _) (by omega), ((HB0.out.trans (hb2.mono (by omega))).setCell (by simp) _).setCell (by simp) _⟩
end Go.Proofs.Ytdjncacknmejoaa.Fr
