/-
  Contracts of the two functions that value.Copy hands to fold: a value alone, with room for its kids; a kid appended. Condition: at most 2^30 kids.
-/
import Derived.Test.YtdbcdabijolagaaDoorXcopy
namespace Go.Proofs.YtdbcdabijolagaaDoor.Val
open Go.RowKit Go.Proofs.YtdbcdabijolagaaDoor.Utf V

theorem box_grown {w w' : World} {g : Nat} {x0 x1 x2 x3 : Value} (h : Box w g x0 x1 x2 x3) {row : Option Nat} (hg : w.grownBy w' row) (hne : row ≠ some g) : Box w' g x0 x1 x2 x3 := (hg.block g h.lt (fun e => hne e.symm)).trans h

/-- A value alone is answered: its kids are none yet, with room for them. -/
def GivesA (k n : Nat) (t : ByteArray) (w : World) (e : Ending) (w' : World) : Prop := ∃ A c, e = .returned (.agg #[.int .u8 k, .int .u64 n, .string t, .slice A 0 c]) ∧ w'.ownsRow w.heap.size 25 4 (.slice A 0 c) 0 [] ∧ Below w.heap.size w w'

theorem grown_setCell (w : World) (p : Addr) (u : Value) : w.grownBy (w.setCell p u) (some p.block) :=
  ⟨rfl, rfl, rfl, by simp, fun k _ hk => Below.heap_setCell w p u k (fun e => hk (by rw [e]))⟩
theorem own_far {w : World} {base : Nat} {e : TypeId} {size n : Nat} {v : Value} {xs : List Value} (h : w.ownsRow base e size v n xs) {p : Addr} (hp : v.ownBlock ≠ some p.block) (u : Value) : (w.setCell p u).ownsRow base e size v n xs :=
  h.kept (grown_setCell w p u) (.inr hp)
theorem own_far4 {w : World} {base : Nat} {e : TypeId} {size n : Nat} {v : Value} {xs : List Value} (h : w.ownsRow base e size v n xs) {g : Nat} (hp : v.ownBlock ≠ some g) (x0 x1 x2 x3 : Value) :
    ((((w.setCell ⟨g, 0, none⟩ x0).setCell ⟨g, 1, none⟩ x1).setCell ⟨g, 2, none⟩ x2).setCell ⟨g, 3, none⟩ x3).ownsRow base e size v n xs :=
  own_far (p := ⟨g, 3, none⟩) (own_far (p := ⟨g, 2, none⟩) (own_far (p := ⟨g, 1, none⟩) (own_far (p := ⟨g, 0, none⟩) h hp _) hp _) hp _) hp _

set_option maxHeartbeats 800000 in
theorem copyA_any (k n : Nat) (t : ByteArray) (A : Option Addr) (l c : Nat) (w : World) (hl : l ≤ 1073741824) :
    Calls Tryd.prog 37 #[.agg #[.int .u8 k, .int .u64 n, .string t, .slice A l c]] w (GivesA k n t w) := by
  obtain ⟨i0, hi, hz0, hz1, hz2⟩ := info_parts infoV
  have hW := ((two_boxes w (.cells #[.int .u8 k, .int .u64 n, .string t, .slice A l c] 25) (.cells #[.int .u8 0, .int .u64 0, .string ⟨#[]⟩, .slice none 0 0] 25)).alloc (by simp; omega) (.cells #[.int .u8 k, .int .u64 n, .string t, .slice none 0 0] 25))
  have b1 := (Box.new2 w (.cells #[.int .u8 k, .int .u64 n, .string t, .slice A l c] 25) (.int .u8 0) (.int .u64 0) (.string ⟨#[]⟩) (.slice none 0 0)).alloc (.cells #[.int .u8 k, .int .u64 n, .string t, .slice none 0 0] 25)
  have b2 := Box.new2 (w.alloc (.cells #[.int .u8 k, .int .u64 n, .string t, .slice A l c] 25)) (.cells #[.int .u8 0, .int .u64 0, .string ⟨#[]⟩, .slice none 0 0] 25) (.int .u8 k) (.int .u64 n) (.string t) (.slice none 0 0)
  simp only [World.size_alloc] at b2
  rcases Nat.eq_zero_or_pos l with rfl | h0
  · go_enter Tryd.func37, Tryd.ntmps37
    go_wp2
    refine bodyPost_ret (v := .agg #[.int .u8 k, .int .u64 n, .string t, .slice none 0 0]) (by simp [results, Tryd.results37, go_sem]) rfl ?_
    exact ⟨none, 0, rfl, World.ownsRow_nil _ _ _ _, ((two_boxes w _ _).alloc (by simp; omega) _)⟩
  · have hI : decide ((0 : Int) < (l : Int)) = true := by simp; omega
    have HW := Lib.hid hW
    clear hW
    go_enter Tryd.func37, Tryd.ntmps37
    go_wp2_with (at_make; refine wpList_make_own _ rfl _ _ 23 rfl w.heap.size 25 i0 _ 4 Tryd.underlying23 hi hz0 hz1 .i64 .i64 (l : Int) l rfl rfl rfl (by rw [hz2]; omega) (by unfold maxLen; omega) (by simp; omega) ?_; intro w2 hown2 hgrow2; have hbm := (Below.refl _ _).grown hgrow2 (Nat.le_refl _) (fun _ h => (by cases h)); have hb2 := below_next HW.out hbm; have hb1' := b1.call hbm; have hb2' := b2.call hbm; obtain ⟨x0, x1, x2, x3, xf⟩ := hb1'.all; obtain ⟨y0, y1, y2, y3, yf⟩ := hb2'.all; simp only [World.size_alloc] at hown2; have hown3 := Lib.hid hown2; clear hown2)
    refine bodyPost_ret (v := .agg #[.int .u8 k, .int .u64 n, .string t, .slice (some ⟨w.heap.size + 1 + 1 + 1, 0, none⟩) 0 l]) (by simp [results, Tryd.results37, go_sem, x0, x1, x2, x3]) rfl ?_
    refine ⟨_, _, rfl, own_far4 (own_far (p := ⟨w.heap.size + 1 + 1, 3, none⟩) hown3.out ?_ _) ?_ _ _ _ _, below_set4 (hb2.setCell (p := ⟨w.heap.size + 1 + 1, 3, none⟩) (by simp only; omega) _) (by omega) _ _ _ _⟩
    · simp [Value.ownBlock] <;> omega
    · simp [Value.ownBlock] <;> omega

/-- A kid is appended: of what was there nothing has turned but the row. -/
def GivesP (k n : Nat) (t : ByteArray) (m B : Nat) (xs ys : List Value) (ob : Option Nat) (w : World) (e : Ending) (w' : World) : Prop :=
  ∃ g c, e = .returned (.agg #[.int .u8 k, .int .u64 n, .string t, .slice (some ⟨g, 0, none⟩) (m + 1) c]) ∧ w'.ownsRow B 25 4 (.slice (some ⟨g, 0, none⟩) (m + 1) c) (m + 1) (xs ++ ys) ∧ w.grownBy w' ob ∧ (ob = some g ∨ w.heap.size ≤ g)

set_option maxHeartbeats 800000 in
theorem copyP_any (k n : Nat) (t : ByteArray) (A : Option Addr) (m c B : Nat) (xs : List Value) (k' n' : Nat) (t' : ByteArray) (A' : Option Addr) (l' c' : Nat) (w : World) (hm : m ≤ 1073741824) (hB : B ≤ w.heap.size) (hown : w.ownsRow B 25 4 (.slice A m c) m xs) :
    Calls Tryd.prog 39 #[.agg #[.int .u8 k, .int .u64 n, .string t, .slice A m c], .agg #[.int .u8 k', .int .u64 n', .string t', .slice A' l' c']] w
      (GivesP k n t m B xs [.int .u8 k', .int .u64 n', .string t', .slice A' l' c'] (Value.slice A m c).ownBlock w) := by
  obtain ⟨i0, hi, hz0, hz1, hz2⟩ := info_parts infoV
  have hOB := hown.lt
  have hW := ((two_boxes w (.cells #[.int .u8 k, .int .u64 n, .string t, .slice A m c] 25) (.cells #[.int .u8 k', .int .u64 n', .string t', .slice A' l' c'] 25)).alloc (by simp; omega) (.cells #[.int .u8 0, .int .u64 0, .string ⟨#[]⟩, .slice none 0 0] 25))
  have b0 := ((Box.new w (.int .u8 k) (.int .u64 n) (.string t) (.slice A m c)).alloc (.cells #[.int .u8 k', .int .u64 n', .string t', .slice A' l' c'] 25)).alloc (.cells #[.int .u8 0, .int .u64 0, .string ⟨#[]⟩, .slice none 0 0] 25)
  have b2 := Box.new2 (w.alloc (.cells #[.int .u8 k, .int .u64 n, .string t, .slice A m c] 25)) (.cells #[.int .u8 k', .int .u64 n', .string t', .slice A' l' c'] 25) (.int .u8 0) (.int .u64 0) (.string ⟨#[]⟩) (.slice none 0 0)
  simp only [World.size_alloc] at b2
  have b0' := b0.alloc (.cells #[.int .u8 k', .int .u64 n', .string t', .slice A' l' c'] 25)
  have b2' := b2.alloc (.cells #[.int .u8 k', .int .u64 n', .string t', .slice A' l' c'] 25)
  have hW' := hW.alloc (by simp; omega) (.cells #[.int .u8 k', .int .u64 n', .string t', .slice A' l' c'] 25)
  have HW := Lib.hid hW'
  have HOB := Lib.hid hOB
  clear hW hW' hOB b0 b2
  go_enter Tryd.func39, Tryd.ntmps39
  go_wp2_with (at_builtin; refine wpList_append_lies _ rfl _ _ 23 rfl B 25 i0 _ 4 56 Tryd.underlying23 hi hz0 hz1 hz2 rfl (by omega) _ _ _ rfl ((((hown.alloc _).alloc _).alloc _).alloc _) ⟨w.heap.size + 1 + 1 + 1, 0, none⟩ 1 1 [.int .u8 k', .int .u64 n', .string t', .slice A' l' c'] rfl rfl (news4 _ _ _ _ _ _ _ (by simp)) (fun u hu => (by simp at hu; rcases hu with rfl | rfl | rfl | rfl <;> rfl)) (by omega) (by unfold maxLen; omega) (by omega) (by simp; omega) _ rfl ?_; intro g9 cap9 w9 hown9 hgrow9 hat9 _; have hx := box_grown b0' hgrow9 (fun e => (by have := (HOB.out _ e).2; omega)); have hy := box_grown b2' hgrow9 (fun e => (by have := (HOB.out _ e).2; omega)); obtain ⟨x0, x1, x2, x3, xf⟩ := hx.all; obtain ⟨y0, y1, y2, y3, yf⟩ := hy.all; have hown3 := Lib.hid hown9; have HG := Lib.hid hgrow9; have HAT := Lib.hid hat9; clear hown9 hgrow9 hat9 hown)
  refine bodyPost_ret (v := .agg #[.int .u8 k, .int .u64 n, .string t, .slice (some ⟨g9, 0, none⟩) (m + 1) cap9]) (by simp [results, Tryd.results39, go_sem, y0, y1, y2, y3]) rfl ?_
  have hne : (Value.slice A m c).ownBlock = some g9 ∨ w.heap.size + 1 + 1 + 1 < g9 := by
    rcases HAT.out with h | h
    · exact .inl h
    · right; simp at h; omega
  have hg9 : g9 ≠ w.heap.size ∧ g9 ≠ w.heap.size + 1 + 1 := by
    rcases hne with h | h
    · have := (HOB.out _ h).2
      omega
    · omega
  refine ⟨g9, cap9, rfl, own_far4 (own_far (p := ⟨w.heap.size, 3, none⟩) hown3.out ?_ _) ?_ _ _ _ _, ?_, ?_⟩
  · simp [Value.ownBlock]; omega
  · simp [Value.ownBlock]; omega
  · have hb := HW.out
    have hg := HG.out
    have hs := hg.size
    simp at hs
    refine ⟨hg.os.trans hb.os, hg.tape.trans hb.tape, hg.output.trans hb.output, by simp; omega, fun i hi hne => ?_⟩
    have e4 : ∀ (W : World) (a b c d : Value), ((((W.setCell ⟨w.heap.size + 1 + 1, 0, none⟩ a).setCell ⟨w.heap.size + 1 + 1, 1, none⟩ b).setCell ⟨w.heap.size + 1 + 1, 2, none⟩ c).setCell ⟨w.heap.size + 1 + 1, 3, none⟩ d).heap[i]? = W.heap[i]? := fun W a b c d =>
      (Below.heap_setCell _ _ _ _ (by simp only; omega)).trans ((Below.heap_setCell _ _ _ _ (by simp only; omega)).trans ((Below.heap_setCell _ _ _ _ (by simp only; omega)).trans (Below.heap_setCell _ _ _ _ (by simp only; omega))))
    rw [e4, Below.heap_setCell _ _ _ _ (show i ≠ w.heap.size by omega), hg.block i (by simp; omega) hne]
    exact hb.block i hi
  · rcases hne with h | h
    · exact .inl h
    · right; omega
end Go.Proofs.YtdbcdabijolagaaDoor.Val
