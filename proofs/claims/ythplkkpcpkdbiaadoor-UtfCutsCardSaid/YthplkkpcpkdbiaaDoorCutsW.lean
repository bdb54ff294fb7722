/-
  The walk of the statement UtfCuts: a text that is cut is one just between two characters. Condition, as the card has it: the table utf.shapes lies as the program's text lays it.
-/
import Derived.Test.YthplkkpcpkdbiaaDoorCutM
namespace Go.Proofs.YthplkkpcpkdbiaaDoor.utfCuts
open Go.ChangeShapes Go.WideShapes Go.ChangeAt Go.RowKit Go.Proofs.YthplkkpcpkdbiaaDoor.Utf

theorem head_drop {t : List Nat} {k x : Nat} (h : t[k]? = some x) : (t.drop k).head? = some x := by rw [drop_at h]; rfl

theorem goes_drop {t : List Nat} {k x : Nat} (hx : t[k]? = some x) (hc : cont x = true) : NoT (t.drop k) := fun m h => by
  have := txt_fresh h.1 x (by rw [← h.2]; exact head_drop hx)
  rw [hc] at this
  cases this
theorem goes_take {l : List Nat} (hC : AllC l) {k x : Nat} (hx : (txt l)[k]? = some x) (hc : cont x = true) : NoT ((txt l).take k) := fun d h => by
  have e : txt d ++ (txt l).drop k = txt l := by rw [← h.2, List.take_append_drop]
  obtain ⟨m, e1, e2⟩ := txt_cut h.1 hC e
  exact goes_drop hx hc m ⟨(e1 ▸ hC : AllC (d ++ m)).right, e2⟩
theorem stays {l : List Nat} (hC : AllC l) {k x : Nat} (hx : (txt l)[k]? = some x) (hc : cont x = false) : ∃ d m, IsT ((txt l).take k) d ∧ IsT ((txt l).drop k) m := by
  obtain ⟨d, m, e, e1, e2⟩ := cut_fresh (a := (txt l).take k) (b := (txt l).drop k) hC (List.take_append_drop k _).symm (fun y hy => by
    rw [head_drop hx] at hy
    injection hy with hy
    rw [← hy]
    exact hc)
  subst e
  exact ⟨d, m, ⟨hC.left, e1⟩, ⟨hC.right, e2⟩⟩

theorem text_len (A : Option Addr) (n c : Nat) (l : List Nat) (N : Nat) (w : World) (ht : Tab w) (hr : Rd .u32 4294967296 w w.heap.size A n l) (hn : n ≤ 1099511627776) (hC : AllC l) (hN : (txt l).length = N) :
    Calls Tryd.prog 19 #[.slice A n c] w fun e w' => ∃ A1 c1, e = .returned (.tuple #[.slice A1 N c1, .bool true]) ∧ Own .u8 256 5 w' w.heap.size A1 N c1 (txt l) ∧ Below w.heap.size w w' := by
  subst hN
  exact text_true A n c l w ht hr hn hC

theorem walk_long (A : Option Addr) (n c X : Nat) (w : World) (ht : Tab w) (h : 2048 < n) :
    Calls Tryd.prog 7 #[.slice A n c, .int .u16 X] w fun e w' => e = .returned (.bool true) ∧ Below w.heap.size w w' := by
  have d1 : decide ((2048 : Int) < n) = true := by simp; omega
  clear h
  go_enter Tryd.func7, Tryd.ntmps7
  go_wp2_with (go_at_call 10; refine (works_any w ht).mono ?_; rintro e w1 ⟨rfl, hb1⟩)
  go_ret
  exact ⟨rfl, hb1⟩

theorem walk_none (A : Option Addr) (n c X : Nat) (l : List Nat) (w : World) (ht : Tab w) (hr : Rd .u32 4294967296 w w.heap.size A n l) (hn : n ≤ 2048) (hC : ¬ AllC l) :
    Calls Tryd.prog 7 #[.slice A n c, .int .u16 X] w fun e w' => e = .returned (.bool true) ∧ Below w.heap.size w w' := by
  have d1 : decide ((2048 : Int) < n) = false := by simp; omega
  have d2 : ((n : Int) == 0) = false := by
    have : n ≠ 0 := fun h => hC (by rw [List.eq_nil_of_length_eq_zero (hr.len.trans h)]; exact allC_nil)
    simp; omega
  go_enter Tryd.func7, Tryd.ntmps7
  go_wp2_with fail
  refine (text_false A n c l w ht hr (by omega) hC).mono ?_
  rintro e w1 ⟨rfl, hb1⟩
  have ht1 := ht.call hb1
  go_wp2_with (go_at_call 10; refine (works_any w1 ht1).mono ?_; rintro e w2 ⟨rfl, hb2⟩)
  go_ret
  exact ⟨rfl, hb1.trans (hb2.mono hb1.size)⟩

theorem walk_nil (A : Option Addr) (c X : Nat) (w : World) (ht : Tab w) :
    Calls Tryd.prog 7 #[.slice A 0 c, .int .u16 X] w fun e w' => e = .returned (.bool true) ∧ Below w.heap.size w w' := by
  go_enter Tryd.func7, Tryd.ntmps7
  go_wp2_with fail
  refine (text_len A 0 c [] 0 w ht (Rd.zero _ _ _ _ _) (by omega) allC_nil rfl).mono ?_
  rintro e w1 ⟨A1, c1, rfl, ho1, hb1⟩
  have ht1 := ht.call hb1
  go_wp2_with (go_at_call 10; refine (works_any w1 ht1).mono ?_; rintro e w2 ⟨rfl, hb2⟩)
  go_ret
  exact ⟨rfl, hb1.trans (hb2.mono hb1.size)⟩

set_option maxHeartbeats 400000 in
theorem walk_goes (A : Option Addr) (n c X : Nat) (l : List Nat) (w : World) (ht : Tab w) (hr : Rd .u32 4294967296 w w.heap.size A n l) (hn : n ≤ 2048) (hX : X < 65536) (hC : AllC l) (N k x : Nat) (hN : (txt l).length = N) (hN0 : 0 < N) (hN4 : N ≤ 8192) (hk : ((X : Int)).tmod (N : Int) = (k : Int)) (hkN : k < N) (hx : (txt l)[k]? = some x) (hxx : 128 ≤ x ∧ x < 192) (h1 : NoT ((txt l).take k)) (h2 : NoT ((txt l).drop k)) :
    Calls Tryd.prog 7 #[.slice A n c, .int .u16 X] w fun e w' => e = .returned (.bool true) ∧ Below w.heap.size w w' := by
  have d1 : decide ((2048 : Int) < n) = false := by simp; omega
  have d2 : ((N : Int) == 0) = false := by simp; omega
  have d3 : decide (128 ≤ (x : Int)) = true := by simp; omega
  have d4 : decide ((x : Int) < 192) = true := by simp; omega
  clear hxx
  go_enter Tryd.func7, Tryd.ntmps7
  go_wp2_with fail
  refine (text_len A n c l N w ht hr (by omega) hC hN).mono ?_
  rintro e w1 ⟨A1, c1, rfl, ho1, hb1⟩
  have ht1 := ht.call hb1
  have hc1 := ho1.cap.1
  obtain ⟨g, rfl, hg⟩ := ho1.read hN0
  have hcell := hg k x hx
  clear hg
  obtain ⟨q1, q2⟩ := cut_to (some ⟨g, 0, none⟩) N c1 k (by omega) hc1
  obtain ⟨A3, c3, hc3, _, q3, q4, hrd⟩ := cut_from (some ⟨g, 0, none⟩) N c1 k (by omega) hc1
  have hrt := ho1.rd.take (k := k) (by omega)
  have q1' := q1 w1 (k : Int) rfl
  have q2' := q2 w1 (k : Int) rfl
  have hw : wrap64 (X : Int) = X := by unfold wrap64; omega
  clear q1 q2 d1 hx hX
  have hkI : (k : Int) < (N : Int) := by omega
  go_wp2_with fail
  refine (right_false (some ⟨g, 0, none⟩) k c1 _ w1 ht1 hrt (by omega) (by omega) h1).mono ?_
  rintro e w2 ⟨rfl, hb2⟩
  have ht2 := ht1.call hb2
  have ho2 := ho1.below hb2
  have hr3 := hrd _ _ _ ho2.rd
  have q3' := q3 w2 (k : Int) rfl
  have q4' := q4 w2 (k : Int) rfl
  have hb2' := hb1.trans (hb2.mono hb1.size)
  clear q3 q4 hrd q1' q2' ho1 ho2 hb1 hb2 hrt
  go_wp2_with fail
  refine (right_false A3 (N - k) c3 _ w2 ht2 hr3 hc3 (by omega) h2).mono ?_
  rintro e w3 ⟨rfl, hb3⟩
  have ht3 := ht2.call hb3
  have hb3' := hb2'.trans (hb3.mono hb2'.size)
  clear q3' q4' hr3 hb3 hb2' ht2 ht1
  go_wp2_with fail
  refine (works_any w3 ht3).mono ?_
  rintro e w4 ⟨rfl, hb4⟩
  go_wp2
  go_ret
  exact ⟨rfl, hb3'.trans (hb4.mono hb3'.size)⟩

set_option maxHeartbeats 400000 in
theorem walk_low (A : Option Addr) (n c X : Nat) (l : List Nat) (w : World) (ht : Tab w) (hr : Rd .u32 4294967296 w w.heap.size A n l) (hn : n ≤ 2048) (hX : X < 65536) (hC : AllC l) (N k x : Nat) (hN : (txt l).length = N) (hN0 : 0 < N) (hN4 : N ≤ 8192) (hk : ((X : Int)).tmod (N : Int) = (k : Int)) (hkN : k < N) (hx : (txt l)[k]? = some x) (hxx : x < 128) (ds ms : List Nat) (h1 : IsT ((txt l).take k) ds) (h2 : IsT ((txt l).drop k) ms) :
    Calls Tryd.prog 7 #[.slice A n c, .int .u16 X] w fun e w' => e = .returned (.bool true) ∧ Below w.heap.size w w' := by
  have d1 : decide ((2048 : Int) < n) = false := by simp; omega
  have d2 : ((N : Int) == 0) = false := by simp; omega
  have d3 : decide (128 ≤ (x : Int)) = false := by simp; omega
  clear hxx
  go_enter Tryd.func7, Tryd.ntmps7
  go_wp2_with fail
  refine (text_len A n c l N w ht hr (by omega) hC hN).mono ?_
  rintro e w1 ⟨A1, c1, rfl, ho1, hb1⟩
  have ht1 := ht.call hb1
  have hc1 := ho1.cap.1
  obtain ⟨g, rfl, hg⟩ := ho1.read hN0
  have hcell := hg k x hx
  clear hg
  obtain ⟨q1, q2⟩ := cut_to (some ⟨g, 0, none⟩) N c1 k (by omega) hc1
  obtain ⟨A3, c3, hc3, _, q3, q4, hrd⟩ := cut_from (some ⟨g, 0, none⟩) N c1 k (by omega) hc1
  have hrt := ho1.rd.take (k := k) (by omega)
  have q1' := q1 w1 (k : Int) rfl
  have q2' := q2 w1 (k : Int) rfl
  have hw : wrap64 (X : Int) = X := by unfold wrap64; omega
  clear q1 q2 d1 hx hX
  have hkI : (k : Int) < (N : Int) := by omega
  go_wp2_with fail
  refine (right_true (some ⟨g, 0, none⟩) k c1 _ ds w1 ht1 hrt (by omega) (by omega) h1).mono ?_
  rintro e w2 ⟨rfl, hb2⟩
  have ht2 := ht1.call hb2
  have ho2 := ho1.below hb2
  have hr3 := hrd _ _ _ ho2.rd
  have q3' := q3 w2 (k : Int) rfl
  have q4' := q4 w2 (k : Int) rfl
  have hb2' := hb1.trans (hb2.mono hb1.size)
  clear q3 q4 hrd q1' q2' ho1 ho2 hb1 hb2 hrt
  go_wp2_with fail
  refine (right_true A3 (N - k) c3 _ ms w2 ht2 hr3 hc3 (by omega) h2).mono ?_
  rintro e w3 ⟨rfl, hb3⟩
  have ht3 := ht2.call hb3
  have hb3' := hb2'.trans (hb3.mono hb2'.size)
  clear q3' q4' hr3 hb3 hb2' ht2 ht1
  go_wp2_with fail
  refine (works_any w3 ht3).mono ?_
  rintro e w4 ⟨rfl, hb4⟩
  go_wp2
  go_ret
  exact ⟨rfl, hb3'.trans (hb4.mono hb3'.size)⟩

set_option maxHeartbeats 400000 in
theorem walk_high (A : Option Addr) (n c X : Nat) (l : List Nat) (w : World) (ht : Tab w) (hr : Rd .u32 4294967296 w w.heap.size A n l) (hn : n ≤ 2048) (hX : X < 65536) (hC : AllC l) (N k x : Nat) (hN : (txt l).length = N) (hN0 : 0 < N) (hN4 : N ≤ 8192) (hk : ((X : Int)).tmod (N : Int) = (k : Int)) (hkN : k < N) (hx : (txt l)[k]? = some x) (hxx : 192 ≤ x) (ds ms : List Nat) (h1 : IsT ((txt l).take k) ds) (h2 : IsT ((txt l).drop k) ms) :
    Calls Tryd.prog 7 #[.slice A n c, .int .u16 X] w fun e w' => e = .returned (.bool true) ∧ Below w.heap.size w w' := by
  have d1 : decide ((2048 : Int) < n) = false := by simp; omega
  have d2 : ((N : Int) == 0) = false := by simp; omega
  have d3 : decide (128 ≤ (x : Int)) = true := by simp; omega
  have d4 : decide ((x : Int) < 192) = false := by simp; omega
  clear hxx
  go_enter Tryd.func7, Tryd.ntmps7
  go_wp2_with fail
  refine (text_len A n c l N w ht hr (by omega) hC hN).mono ?_
  rintro e w1 ⟨A1, c1, rfl, ho1, hb1⟩
  have ht1 := ht.call hb1
  have hc1 := ho1.cap.1
  obtain ⟨g, rfl, hg⟩ := ho1.read hN0
  have hcell := hg k x hx
  clear hg
  obtain ⟨q1, q2⟩ := cut_to (some ⟨g, 0, none⟩) N c1 k (by omega) hc1
  obtain ⟨A3, c3, hc3, _, q3, q4, hrd⟩ := cut_from (some ⟨g, 0, none⟩) N c1 k (by omega) hc1
  have hrt := ho1.rd.take (k := k) (by omega)
  have q1' := q1 w1 (k : Int) rfl
  have q2' := q2 w1 (k : Int) rfl
  have hw : wrap64 (X : Int) = X := by unfold wrap64; omega
  clear q1 q2 d1 hx hX
  have hkI : (k : Int) < (N : Int) := by omega
  go_wp2_with fail
  refine (right_true (some ⟨g, 0, none⟩) k c1 _ ds w1 ht1 hrt (by omega) (by omega) h1).mono ?_
  rintro e w2 ⟨rfl, hb2⟩
  have ht2 := ht1.call hb2
  have ho2 := ho1.below hb2
  have hr3 := hrd _ _ _ ho2.rd
  have q3' := q3 w2 (k : Int) rfl
  have q4' := q4 w2 (k : Int) rfl
  have hb2' := hb1.trans (hb2.mono hb1.size)
  clear q3 q4 hrd q1' q2' ho1 ho2 hb1 hb2 hrt
  go_wp2_with fail
  refine (right_true A3 (N - k) c3 _ ms w2 ht2 hr3 hc3 (by omega) h2).mono ?_
  rintro e w3 ⟨rfl, hb3⟩
  have ht3 := ht2.call hb3
  have hb3' := hb2'.trans (hb3.mono hb2'.size)
  clear q3' q4' hr3 hb3 hb2' ht2 ht1
  go_wp2_with fail
  refine (works_any w3 ht3).mono ?_
  rintro e w4 ⟨rfl, hb4⟩
  go_wp2
  go_ret
  exact ⟨rfl, hb3'.trans (hb4.mono hb3'.size)⟩

theorem walk (A : Option Addr) (n c : Nat) (l : List Nat) (X : Nat) (w : World) (ht : Tab w) (hr : Rd .u32 4294967296 w w.heap.size A n l) (_ : n ≤ c) (_ : c ≤ maxLen) (hX : X < 65536) :
    Calls Tryd.prog 7 #[.slice A n c, .int .u16 X] w fun e w' => e = .returned (.bool true) ∧ Below w.heap.size w w' := by
  by_cases h : 2048 < n
  · exact walk_long A n c X w ht h
  by_cases hC : AllC l
  · have t := txt_len l
    rw [hr.len] at t
    by_cases h0 : (txt l).length = 0
    · obtain rfl : n = 0 := by omega
      exact walk_nil A c X w ht
    · have hkN : X % (txt l).length < (txt l).length := Nat.mod_lt _ (by omega)
      have hk : ((X : Int)).tmod ((txt l).length : Int) = ((X % (txt l).length : Nat) : Int) := by
        rw [Int.tmod_eq_emod_of_nonneg (Int.natCast_nonneg X)]
        simp
      have hx := List.getElem?_eq_getElem hkN
      cases hc : cont (txt l)[X % (txt l).length] with
      | true => exact walk_goes A n c X l w ht hr (by omega) hX hC _ _ _ rfl (by omega) (by omega) hk hkN hx (cont_lt hc) (goes_take hC hx hc) (goes_drop hx hc)
      | false =>
        obtain ⟨ds, ms, h1, h2⟩ := stays hC hx hc
        by_cases hlo : (txt l)[X % (txt l).length] < 128
        · exact walk_low A n c X l w ht hr (by omega) hX hC _ _ _ rfl (by omega) (by omega) hk hkN hx hlo ds ms h1 h2
        · refine walk_high A n c X l w ht hr (by omega) hX hC _ _ _ rfl (by omega) (by omega) hk hkN hx ?_ ds ms h1 h2
          generalize (txt l)[X % (txt l).length] = y at *
          simp [cont] at hc
          omega
  · exact walk_none A n c X l w ht hr (by omega) hC
end Go.Proofs.YthplkkpcpkdbiaaDoor.utfCuts
