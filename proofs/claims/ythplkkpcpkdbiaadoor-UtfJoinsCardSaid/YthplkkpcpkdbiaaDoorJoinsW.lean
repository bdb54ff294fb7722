/-
  The walk of the statement UtfJoins: texts one behind the other are a text of the characters of both, and of bytes that are no text there is none. Condition, as the card has it: the table utf.shapes lies as the program's text lays it.
-/
import Derived.Test.YthplkkpcpkdbiaaDoorCutM
namespace Go.Proofs.YthplkkpcpkdbiaaDoor.utfJoins
open Go.ChangeShapes Go.WideShapes Go.ChangeAt Go.RowKit Go.Proofs.YthplkkpcpkdbiaaDoor.Utf

theorem walk_long (A A' : Option Addr) (n c n' c' : Nat) (w : World) (ht : Tab w) (h : 4096 < n ∨ 4096 < n') :
    Calls Tryd.prog 6 #[.slice A n c, .slice A' n' c'] w fun e w' => e = .returned (.bool true) ∧ Below w.heap.size w w' := by
  by_cases h1 : 4096 < n
  · have d1 : decide ((4096 : Int) < n) = true := by simp; omega
    clear h h1
    go_enter Tryd.func6, Tryd.ntmps6
    go_wp2_with (go_at_call 10; refine (works_any w ht).mono ?_; rintro e w1 ⟨rfl, hb1⟩)
    go_ret
    exact ⟨rfl, hb1⟩
  · have d1 : decide ((4096 : Int) < n) = false := by simp; omega
    have d2 : decide ((4096 : Int) < n') = true := by simp; omega
    clear h h1
    go_enter Tryd.func6, Tryd.ntmps6
    go_wp2_with (go_at_call 10; refine (works_any w ht).mono ?_; rintro e w1 ⟨rfl, hb1⟩)
    go_ret
    exact ⟨rfl, hb1⟩

theorem blk_lt {K : IntKind} {M : Nat} {T : TypeId} {w : World} {base n c : Nat} {A : Option Addr} {l : List Nat} {B : Nat} (h : Own K M T w base A n c l) (hB : w.heap.size ≤ B) : ∀ k, (Value.slice A n c).ownBlock = some k → k < B := fun k hk => by
  have := (h.blk k hk).2
  omega
theorem chars_both (A : Option Addr) (n c : Nat) (l ca cb : List Nat) (N M : Nat) (w : World) (ht : Tab w) (hr : Rd .u8 256 w w.heap.size A n l) (hnc : n ≤ c) (hn : n ≤ 1099511627776) (hT : IsT l (ca ++ cb)) (hN : ca.length = N) (hM : cb.length = M) :
    Calls Tryd.prog 12 #[.slice A n c] w fun e w' => ∃ A1 c1, e = .returned (.tuple #[.slice A1 (N + M) c1, .bool true]) ∧ Own .u32 4294967296 36 w' w.heap.size A1 (N + M) c1 (ca ++ cb) ∧ Below w.heap.size w w' := by
  have h := chars_true A n c l (ca ++ cb) w ht hr hnc hn hT
  rw [List.length_append, hN, hM] at h
  exact h
theorem chars_len (A : Option Addr) (n c : Nat) (l cs : List Nat) (N : Nat) (w : World) (ht : Tab w) (hr : Rd .u8 256 w w.heap.size A n l) (hnc : n ≤ c) (hn : n ≤ 1099511627776) (hT : IsT l cs) (hN : cs.length = N) :
    Calls Tryd.prog 12 #[.slice A n c] w fun e w' => ∃ A1 c1, e = .returned (.tuple #[.slice A1 N c1, .bool true]) ∧ Own .u32 4294967296 36 w' w.heap.size A1 N c1 cs ∧ Below w.heap.size w w' := by
  subst hN
  exact chars_true A n c l cs w ht hr hnc hn hT

set_option maxHeartbeats 400000 in
theorem walk_no (A A' : Option Addr) (n c n' c' : Nat) (l l' : List Nat) (w : World) (ht : Tab w) (hr : Rd .u8 256 w w.heap.size A n l) (hr' : Rd .u8 256 w w.heap.size A' n' l') (hnc : n ≤ c) (hnc' : n' ≤ c') (hn : n ≤ 4096) (hn' : n' ≤ 4096) (h1 : NoT l) (h2 : NoT l') :
    Calls Tryd.prog 6 #[.slice A n c, .slice A' n' c'] w fun e w' => e = .returned (.bool true) ∧ Below w.heap.size w w' := by
  have d1 : decide ((4096 : Int) < n) = false := by simp; omega
  have d2 : decide ((4096 : Int) < n') = false := by simp; omega
  have hlen := hr.len
  have hlen' := hr'.len
  go_enter Tryd.func6, Tryd.ntmps6
  go_wp2_with fail
  refine (chars_false A n c l w ht hr hnc (by omega) h1).mono ?_
  rintro e w1 ⟨rfl, hb1⟩
  have ht1 := ht.call hb1
  have hr1' := hr'.call hb1
  go_wp2_with fail
  refine (chars_false A' n' c' l' w1 ht1 hr1' hnc' (by omega) h2).mono ?_
  rintro e w2 ⟨rfl, hb2⟩
  have hb2' : Below w.heap.size w w2 := hb1.trans (hb2.mono hb1.size)
  have hr2 := hr.below hb2'
  have hr2' := hr'.below hb2'
  have ht2 := ht.call hb2'
  have hs2 := hb2'.size
  clear d1 d2 hr1' ht1
  go_wp2_with (first
    | (at_builtin; refine wpList_app8 (l := l) (B := w.heap.size) rfl _ _ rfl rfl (Own.nil .u8 256 5 w2 w2.heap.size) rfl hr2 (by omega) (Nat.le_refl _) ?_; intro A3 c3 w3 ho3 hg3; have hb3 : Below w2.heap.size w2 w3 := below_grown (Own.nil .u8 256 5 w2 w2.heap.size) hg3 (Nat.le_refl _); clear hg3; have hr3' := (hr'.below (hb2'.trans (hb3.mono hs2))); rw [Nat.zero_add] at ho3; have hs3 := hb3.size)
    | (at_builtin; refine wpList_app8 (l := l') (B := w.heap.size) rfl _ _ rfl rfl ho3 rfl hr3' (by omega) hs3 ?_; intro A4 c4 w4 ho4 hg4; have hb4 : Below w2.heap.size w2 w4 := hb3.trans (below_grown ho3 hg4 hs3); clear hg4; have ht4 := ht2.call hb4; have hc4 := ho4.cap.1; rw [List.nil_append] at ho4)
    | (go_at_call 12; refine (chars_uni A4 (n + n') c4 (l ++ l') w4 ht4 ho4.rd hc4 (by omega)).mono ?_; rintro e w5 ⟨cs5, A5, n5, c5, p5, rfl, ho5, _, hb5⟩))
  have hb4' : Below w.heap.size w w4 := hb2'.trans (hb4.mono hs2)
  have hb5' : Below w.heap.size w w5 := hb4'.trans (hb5.mono hb4'.size)
  have ht5 := ht.call hb5'
  clear hb4 hb5 hb4' hb3 hb2 hb1 hb2'
  go_wp2_with (go_at_call 10; refine (works_any w5 ht5).mono ?_; rintro e w6 ⟨rfl, hb6⟩)
  go_ret
  exact ⟨rfl, hb5'.trans (hb6.mono hb5'.size)⟩

set_option maxHeartbeats 400000 in
theorem walk_left (A A' : Option Addr) (n c n' c' : Nat) (l l' : List Nat) (w : World) (ht : Tab w) (hr : Rd .u8 256 w w.heap.size A n l) (hr' : Rd .u8 256 w w.heap.size A' n' l') (hnc : n ≤ c) (hnc' : n' ≤ c') (hn : n ≤ 4096) (hn' : n' ≤ 4096) (cs : List Nat) (h1 : IsT l cs) (h2 : NoT l') :
    Calls Tryd.prog 6 #[.slice A n c, .slice A' n' c'] w fun e w' => e = .returned (.bool true) ∧ Below w.heap.size w w' := by
  have d1 : decide ((4096 : Int) < n) = false := by simp; omega
  have d2 : decide ((4096 : Int) < n') = false := by simp; omega
  have hlen := hr.len
  have hlen' := hr'.len
  go_enter Tryd.func6, Tryd.ntmps6
  go_wp2_with fail
  refine (chars_true A n c l cs w ht hr hnc (by omega) h1).mono ?_
  rintro e w1 ⟨A1, c1, rfl, ho1, hb1⟩
  have ht1 := ht.call hb1
  have hr1' := hr'.call hb1
  go_wp2_with fail
  refine (chars_false A' n' c' l' w1 ht1 hr1' hnc' (by omega) h2).mono ?_
  rintro e w2 ⟨rfl, hb2⟩
  have hb2' : Below w.heap.size w w2 := hb1.trans (hb2.mono hb1.size)
  have hr2 := hr.below hb2'
  have hr2' := hr'.below hb2'
  have ht2 := ht.call hb2'
  have hs2 := hb2'.size
  clear d1 d2 hr1' ht1
  go_wp2_with (first
    | (at_builtin; refine wpList_app8 (l := l) (B := w.heap.size) rfl _ _ rfl rfl (Own.nil .u8 256 5 w2 w2.heap.size) rfl hr2 (by omega) (Nat.le_refl _) ?_; intro A3 c3 w3 ho3 hg3; have hb3 : Below w2.heap.size w2 w3 := below_grown (Own.nil .u8 256 5 w2 w2.heap.size) hg3 (Nat.le_refl _); clear hg3; have hr3' := (hr'.below (hb2'.trans (hb3.mono hs2))); rw [Nat.zero_add] at ho3; have hs3 := hb3.size)
    | (at_builtin; refine wpList_app8 (l := l') (B := w.heap.size) rfl _ _ rfl rfl ho3 rfl hr3' (by omega) hs3 ?_; intro A4 c4 w4 ho4 hg4; have hb4 : Below w2.heap.size w2 w4 := hb3.trans (below_grown ho3 hg4 hs3); clear hg4; have ht4 := ht2.call hb4; have hc4 := ho4.cap.1; rw [List.nil_append] at ho4)
    | (go_at_call 12; refine (chars_false A4 (n + n') c4 (l ++ l') w4 ht4 ho4.rd hc4 (by omega) (join_right h1 h2)).mono ?_; rintro e w5 ⟨rfl, hb5⟩))
  have hb4' : Below w.heap.size w w4 := hb2'.trans (hb4.mono hs2)
  have hb5' : Below w.heap.size w w5 := hb4'.trans (hb5.mono hb4'.size)
  have ht5 := ht.call hb5'
  clear hb4 hb5 hb4' hb3 hb2 hb1 hb2'
  go_wp2_with (go_at_call 10; refine (works_any w5 ht5).mono ?_; rintro e w6 ⟨rfl, hb6⟩)
  go_ret
  exact ⟨rfl, hb5'.trans (hb6.mono hb5'.size)⟩

set_option maxHeartbeats 400000 in
theorem walk_right (A A' : Option Addr) (n c n' c' : Nat) (l l' : List Nat) (w : World) (ht : Tab w) (hr : Rd .u8 256 w w.heap.size A n l) (hr' : Rd .u8 256 w w.heap.size A' n' l') (hnc : n ≤ c) (hnc' : n' ≤ c') (hn : n ≤ 4096) (hn' : n' ≤ 4096) (cs' : List Nat) (h1 : NoT l) (h2 : IsT l' cs') :
    Calls Tryd.prog 6 #[.slice A n c, .slice A' n' c'] w fun e w' => e = .returned (.bool true) ∧ Below w.heap.size w w' := by
  have d1 : decide ((4096 : Int) < n) = false := by simp; omega
  have d2 : decide ((4096 : Int) < n') = false := by simp; omega
  have hlen := hr.len
  have hlen' := hr'.len
  go_enter Tryd.func6, Tryd.ntmps6
  go_wp2_with fail
  refine (chars_false A n c l w ht hr hnc (by omega) h1).mono ?_
  rintro e w1 ⟨rfl, hb1⟩
  have ht1 := ht.call hb1
  have hr1' := hr'.call hb1
  go_wp2_with fail
  refine (chars_true A' n' c' l' cs' w1 ht1 hr1' hnc' (by omega) h2).mono ?_
  rintro e w2 ⟨A2, c2, rfl, ho2, hb2⟩
  have hb2' : Below w.heap.size w w2 := hb1.trans (hb2.mono hb1.size)
  have hr2 := hr.below hb2'
  have hr2' := hr'.below hb2'
  have ht2 := ht.call hb2'
  have hs2 := hb2'.size
  clear d1 d2 hr1' ht1
  go_wp2_with (first
    | (at_builtin; refine wpList_app8 (l := l) (B := w.heap.size) rfl _ _ rfl rfl (Own.nil .u8 256 5 w2 w2.heap.size) rfl hr2 (by omega) (Nat.le_refl _) ?_; intro A3 c3 w3 ho3 hg3; have hb3 : Below w2.heap.size w2 w3 := below_grown (Own.nil .u8 256 5 w2 w2.heap.size) hg3 (Nat.le_refl _); clear hg3; have hr3' := (hr'.below (hb2'.trans (hb3.mono hs2))); rw [Nat.zero_add] at ho3; have hs3 := hb3.size)
    | (at_builtin; refine wpList_app8 (l := l') (B := w.heap.size) rfl _ _ rfl rfl ho3 rfl hr3' (by omega) hs3 ?_; intro A4 c4 w4 ho4 hg4; have hb4 : Below w2.heap.size w2 w4 := hb3.trans (below_grown ho3 hg4 hs3); clear hg4; have ht4 := ht2.call hb4; have hc4 := ho4.cap.1; rw [List.nil_append] at ho4)
    | (go_at_call 12; refine (chars_false A4 (n + n') c4 (l ++ l') w4 ht4 ho4.rd hc4 (by omega) (join_left h2 h1)).mono ?_; rintro e w5 ⟨rfl, hb5⟩))
  have hb4' : Below w.heap.size w w4 := hb2'.trans (hb4.mono hs2)
  have hb5' : Below w.heap.size w w5 := hb4'.trans (hb5.mono hb4'.size)
  have ht5 := ht.call hb5'
  clear hb4 hb5 hb4' hb3 hb2 hb1 hb2'
  go_wp2_with (go_at_call 10; refine (works_any w5 ht5).mono ?_; rintro e w6 ⟨rfl, hb6⟩)
  go_ret
  exact ⟨rfl, hb5'.trans (hb6.mono hb5'.size)⟩

set_option maxHeartbeats 400000 in
theorem walk_both (A A' : Option Addr) (n c n' c' : Nat) (l l' : List Nat) (w : World) (ht : Tab w) (hr : Rd .u8 256 w w.heap.size A n l) (hr' : Rd .u8 256 w w.heap.size A' n' l') (hnc : n ≤ c) (hnc' : n' ≤ c') (hn : n ≤ 4096) (hn' : n' ≤ 4096) (cs cs' : List Nat) (N M : Nat) (h1 : IsT l cs) (h2 : IsT l' cs') (hN : cs.length = N) (hM : cs'.length = M) (hlc : N ≤ n) (hlc' : M ≤ n') :
    Calls Tryd.prog 6 #[.slice A n c, .slice A' n' c'] w fun e w' => e = .returned (.bool true) ∧ Below w.heap.size w w' := by
  have d1 : decide ((4096 : Int) < n) = false := by simp; omega
  have d2 : decide ((4096 : Int) < n') = false := by simp; omega
  have hlen := hr.len
  have hlen' := hr'.len
  go_enter Tryd.func6, Tryd.ntmps6
  go_wp2_with fail
  refine (chars_len A n c l cs N w ht hr hnc (by omega) h1 hN).mono ?_
  rintro e w1 ⟨A1, c1, rfl, ho1, hb1⟩
  have ht1 := ht.call hb1
  have hr1' := hr'.call hb1
  go_wp2_with fail
  refine (chars_len A' n' c' l' cs' M w1 ht1 hr1' hnc' (by omega) h2 hM).mono ?_
  rintro e w2 ⟨A2, c2, rfl, ho2, hb2⟩
  have hb2' : Below w.heap.size w w2 := hb1.trans (hb2.mono hb1.size)
  have hr2 := hr.below hb2'
  have hr2' := hr'.below hb2'
  have ht2 := ht.call hb2'
  have hs2 := hb2'.size
  clear d1 d2 hr1' ht1
  go_wp2_with (first
    | (at_builtin; refine wpList_app8 (l := l) (B := w.heap.size) rfl _ _ rfl rfl (Own.nil .u8 256 5 w2 w2.heap.size) rfl hr2 (by omega) (Nat.le_refl _) ?_; intro A3 c3 w3 ho3 hg3; have hb3 : Below w2.heap.size w2 w3 := below_grown (Own.nil .u8 256 5 w2 w2.heap.size) hg3 (Nat.le_refl _); clear hg3; have hr3' := (hr'.below (hb2'.trans (hb3.mono hs2))); rw [Nat.zero_add] at ho3; have hs3 := hb3.size)
    | (at_builtin; refine wpList_app8 (l := l') (B := w.heap.size) rfl _ _ rfl rfl ho3 rfl hr3' (by omega) hs3 ?_; intro A4 c4 w4 ho4 hg4; have hb4 : Below w2.heap.size w2 w4 := hb3.trans (below_grown ho3 hg4 hs3); clear hg4; have ht4 := ht2.call hb4; have hc4 := ho4.cap.1; rw [List.nil_append] at ho4)
    | (go_at_call 12; refine (chars_both A4 (n + n') c4 (l ++ l') cs cs' N M w4 ht4 ho4.rd hc4 (by omega) (join_yes h1 h2) hN hM).mono ?_; rintro e w5 ⟨A5, c5, rfl, ho5, hb5⟩; have hb4' : Below w.heap.size w w4 := hb2'.trans (hb4.mono hs2); have hb5' : Below w.heap.size w w5 := hb4'.trans (hb5.mono hb4'.size); have hb25 : Below w2.heap.size w2 w5 := hb4.trans (hb5.mono hb4.size); have hb15 : Below w1.heap.size w1 w5 := hb2.trans (hb25.mono hb2.size); have ho1' := ho1.below hb15; have ho2' := ho2.below hb25; have hs5 := hb5'.size; have hblk := blk_lt ho1 (Nat.le_trans hb2.size hb4.size); clear hb4 hb5 hb4' hb3 hb2 hb1 hb2' hb25 hb15 ho1 ho2 ho3 ho4)
    | (at_builtin; refine wpList_app32 (l := cs') (B := w5.heap.size) rfl _ _ rfl rfl ho1' rfl ho2'.rd (by omega) hs5 ?_; intro A6 c6 w6 ho6 hg6; have hb6 : Below w.heap.size w w6 := hb5'.trans (below_grown ho1' hg6 hs5); have hr6 := ho5.aside hg6 hblk; have ht6 := ht.call hb6; have hs6 := hb6.size)
    | (go_at_call 14; refine (same_same w6.heap.size w6.heap.size A6 A5 (N + M) c6 c5 (cs ++ cs') w6 ho6.rd hr6 (by omega)).mono ?_; rintro e w7 ⟨rfl, k7, rfl⟩)
    | (go_at_call 10; refine (works_any _ (ht6.drewN k7)).mono ?_; rintro e w8 ⟨rfl, hb8⟩))
  go_ret
  exact ⟨rfl, (drewly hb6 k7).trans (hb8.mono hs6)⟩

theorem walk (A : Option Addr) (n c : Nat) (l : List Nat) (A' : Option Addr) (n' c' : Nat) (l' : List Nat) (w : World) (ht : Tab w) (hr : Rd .u8 256 w w.heap.size A n l) (hnc : n ≤ c) (_ : c ≤ maxLen) (hr' : Rd .u8 256 w w.heap.size A' n' l') (hnc' : n' ≤ c') (_ : c' ≤ maxLen) :
    Calls Tryd.prog 6 #[.slice A n c, .slice A' n' c'] w fun e w' => e = .returned (.bool true) ∧ Below w.heap.size w w' := by
  by_cases h : 4096 < n ∨ 4096 < n'
  · exact walk_long A A' n c n' c' w ht h
  rcases yes_or_no l with ⟨cs, h1⟩ | h1 <;> rcases yes_or_no l' with ⟨cs', h2⟩ | h2
  · exact walk_both A A' n c n' c' l l' w ht hr hr' hnc hnc' (by omega) (by omega) cs cs' _ _ h1 h2 rfl rfl (by have := (txt_len cs).1; rw [← h1.2, hr.len] at this; exact this) (by have := (txt_len cs').1; rw [← h2.2, hr'.len] at this; exact this)
  · exact walk_left A A' n c n' c' l l' w ht hr hr' hnc hnc' (by omega) (by omega) cs h1 h2
  · exact walk_right A A' n c n' c' l l' w ht hr hr' hnc hnc' (by omega) (by omega) cs' h1 h2
  · exact walk_no A A' n c n' c' l l' w ht hr hr' hnc hnc' (by omega) (by omega) h1 h2
end Go.Proofs.YthplkkpcpkdbiaaDoor.utfJoins
