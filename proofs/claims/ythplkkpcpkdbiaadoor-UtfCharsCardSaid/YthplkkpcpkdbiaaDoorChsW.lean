/-
  The walk of the statement UtfChars: Chars, Right and Ascii tell the characters of any bytes, or that they are no text. Condition, as the card has it: the table utf.shapes lies as the program's text lays it.
-/
import Derived.Test.YthplkkpcpkdbiaaDoorRchr
import Derived.Test.YthplkkpcpkdbiaaDoorRm
namespace Go.Proofs.YthplkkpcpkdbiaaDoor.utfChars
open Go.ChangeShapes Go.WideShapes Go.ChangeAt Go.RowKit Go.Proofs.YthplkkpcpkdbiaaDoor.Utf

theorem chars_len (A : Option Addr) (n c : Nat) (l cs : List Nat) (N : Nat) (w : World) (ht : Tab w) (hr : Rd .u8 256 w w.heap.size A n l) (hnc : n ≤ c) (hn : n ≤ 1099511627776) (hT : IsT l cs) (hN : cs.length = N) :
    Calls Tryd.prog 12 #[.slice A n c] w fun e w' => ∃ A1 c1, e = .returned (.tuple #[.slice A1 N c1, .bool true]) ∧ Own .u32 4294967296 36 w' w.heap.size A1 N c1 cs ∧ Below w.heap.size w w' := by
  subst hN
  exact chars_true A n c l cs w ht hr hnc hn hT
theorem rchars_len (A : Option Addr) (n c : Nat) (l cs : List Nat) (N : Nat) (w : World) (hr : Rd .u8 256 w w.heap.size A n l) (hn : n ≤ 1073741824) (hT : IsT l cs) (hN : cs.length = N) :
    Calls Tryd.prog 13 #[.slice A n c] w fun e w' => ∃ A1 c1, e = .returned (.tuple #[.slice A1 N c1, .bool true]) ∧ Own .u32 4294967296 36 w' w.heap.size A1 N c1 cs ∧ Below w.heap.size w w' := by
  subst hN
  refine (rchars_any A n c l w hr hn).mono ?_
  rintro e w' ⟨⟨cs', A1, n1, c1, h, rfl, ho⟩ | ⟨hN, _⟩, hb⟩
  · obtain rfl := isT_inj hT h
    obtain rfl := ho.len
    exact ⟨A1, c1, rfl, ho, hb⟩
  · exact absurd hT (hN cs)
theorem rchars_false (A : Option Addr) (n c : Nat) (l : List Nat) (w : World) (hr : Rd .u8 256 w w.heap.size A n l) (hn : n ≤ 1073741824) (hT : NoT l) :
    Calls Tryd.prog 13 #[.slice A n c] w fun e w' => e = .returned (.tuple #[.slice none 0 0, .bool false]) ∧ Below w.heap.size w w' := by
  refine (rchars_any A n c l w hr hn).mono ?_
  rintro e w' ⟨⟨cs', A1, n1, c1, h, rfl, ho⟩ | ⟨hN, rfl⟩, hb⟩
  · exact absurd h (hT cs')
  · exact ⟨rfl, hb⟩

theorem walk_long (A : Option Addr) (n c : Nat) (w : World) (ht : Tab w) (h : 16384 < n) :
    Calls Tryd.prog 3 #[.slice A n c] w fun e w' => e = .returned (.bool true) ∧ Below w.heap.size w w' := by
  have d1 : decide ((16384 : Int) < n) = true := by simp; omega
  clear h
  go_enter Tryd.func3, Tryd.ntmps3
  go_wp2_with (go_at_call 10; refine (works_any w ht).mono ?_; rintro e w1 ⟨rfl, hb1⟩)
  go_ret
  exact ⟨rfl, hb1⟩

set_option maxHeartbeats 600000 in
theorem walk_yes (A : Option Addr) (n c : Nat) (l : List Nat) (w : World) (ht : Tab w) (hr : Rd .u8 256 w w.heap.size A n l) (hn : n ≤ 16384) (cs : List Nat) (N : Nat) (hT : IsT l cs) (hN : cs.length = N) (hNn : N ≤ n) :
    Calls Tryd.prog 3 #[.slice A n c] w fun e w' => e = .returned (.bool true) ∧ Below w.heap.size w w' := by
  have d1 : decide ((16384 : Int) < n) = false := by simp; omega
  have hlen := hr.len
  go_enter Tryd.func3, Tryd.ntmps3
  go_wp2_with (first
    | (go_at_call 11; refine (roomy_any A n c l w hr (by omega)).mono ?_; rintro e w1 ⟨g, rfl, ho1, hb1⟩; have ht1 := ht.call hb1; have hr1 : Rd .u8 256 w1 w1.heap.size (some ⟨g, 0, none⟩) n l := (ho1.rd.take (k := n) (by omega)).eqv (by rw [← hlen, List.take_left]))
    | (go_at_call 12; refine (chars_len _ n (n + 11) l cs N w1 ht1 hr1 (by omega) (by omega) hT hN).mono ?_; rintro e w2 ⟨A2, c2, rfl, ho2, hb2⟩; have hb2' := hb1.trans (hb2.mono hb1.size); have hr2 := hr.call hb2')
    | (go_at_call 13; refine (rchars_len A n c l cs N w2 hr2 (by omega) hT hN).mono ?_; rintro e w3 ⟨A3, c3, rfl, ho3, hb3⟩; have ho2' := ho2.below hb3; have hb3' := hb2'.trans (hb3.mono hb2'.size); have hb13 := hb2.trans (hb3.mono hb2.size))
    | (go_at_call 14; refine (same_same w3.heap.size w3.heap.size A2 A3 N c2 c3 cs w3 ho2'.rd ho3.rd (by omega)).mono ?_; rintro e w4 ⟨rfl, k4, rfl⟩; have hb4' := drewly hb3' k4; have ht4 := ht.call hb4'; have hr4 := (hr1.call hb13).drewN k4)
    | (go_at_call 15; refine (right_true _ n (n + 11) l cs _ ht4 hr4 (by omega) (by omega) hT).mono ?_; rintro e w5 ⟨rfl, hb5⟩; have hb5' := hb4'.trans (hb5.mono hb4'.size); have hb15 := (drewly hb13 k4).trans (hb5.mono hb13.size); have hr5 := hr1.call hb15; have hr5' := hr.call hb5'; have ho5 := ho1.below hb15; have ht5 := ht.call hb5')
    | (go_at_call 16; refine (ascii_any w5.heap.size (some ⟨g, 0, none⟩) n (n + 11) l w5 hr5 (by omega)).mono ?_; rintro e w6 ⟨rfl, rfl⟩)
    | (go_at_call 17; refine (rascii_any w5.heap.size A n c l w5 hr5' (by omega)).mono ?_; rintro e w6 ⟨rfl, rfl⟩)
    | (go_at_call 18; refine (kept_any g n A c l w5 w5.heap.size ho5.rd hr5' (by omega)).mono ?_; rintro e w6 ⟨rfl, rfl⟩)
    | (go_at_call 10; refine (works_any w5 ht5).mono ?_; rintro e w7 ⟨rfl, hb7⟩))
  go_ret
  exact ⟨rfl, hb5'.trans (hb7.mono hb5'.size)⟩

set_option maxHeartbeats 600000 in
theorem walk_no (A : Option Addr) (n c : Nat) (l : List Nat) (w : World) (ht : Tab w) (hr : Rd .u8 256 w w.heap.size A n l) (hn : n ≤ 16384) (hT : NoT l) :
    Calls Tryd.prog 3 #[.slice A n c] w fun e w' => e = .returned (.bool true) ∧ Below w.heap.size w w' := by
  have d1 : decide ((16384 : Int) < n) = false := by simp; omega
  have hlen := hr.len
  go_enter Tryd.func3, Tryd.ntmps3
  go_wp2_with (first
    | (go_at_call 11; refine (roomy_any A n c l w hr (by omega)).mono ?_; rintro e w1 ⟨g, rfl, ho1, hb1⟩; have ht1 := ht.call hb1; have hr1 : Rd .u8 256 w1 w1.heap.size (some ⟨g, 0, none⟩) n l := (ho1.rd.take (k := n) (by omega)).eqv (by rw [← hlen, List.take_left]))
    | (go_at_call 12; refine (chars_false _ n (n + 11) l w1 ht1 hr1 (by omega) (by omega) hT).mono ?_; rintro e w2 ⟨rfl, hb2⟩; have hb2' := hb1.trans (hb2.mono hb1.size); have hr2 := hr.call hb2')
    | (go_at_call 13; refine (rchars_false A n c l w2 hr2 (by omega) hT).mono ?_; rintro e w3 ⟨rfl, hb3⟩; have hb3' := hb2'.trans (hb3.mono hb2'.size); have hb13 := hb2.trans (hb3.mono hb2.size))
    | (go_at_call 14; refine (same_same w3.heap.size w3.heap.size none none 0 0 0 [] w3 (Rd.zero _ _ _ _ _) (Rd.zero _ _ _ _ _) (by omega)).mono ?_; rintro e w4 ⟨rfl, k4, rfl⟩; have hb4' := drewly hb3' k4; have ht4 := ht.call hb4'; have hr4 := (hr1.call hb13).drewN k4)
    | (go_at_call 15; refine (right_false _ n (n + 11) l _ ht4 hr4 (by omega) (by omega) hT).mono ?_; rintro e w5 ⟨rfl, hb5⟩; have hb5' := hb4'.trans (hb5.mono hb4'.size); have hb15 := (drewly hb13 k4).trans (hb5.mono hb13.size); have hr5 := hr1.call hb15; have hr5' := hr.call hb5'; have ho5 := ho1.below hb15; have ht5 := ht.call hb5')
    | (go_at_call 16; refine (ascii_any w5.heap.size (some ⟨g, 0, none⟩) n (n + 11) l w5 hr5 (by omega)).mono ?_; rintro e w6 ⟨rfl, rfl⟩)
    | (go_at_call 17; refine (rascii_any w5.heap.size A n c l w5 hr5' (by omega)).mono ?_; rintro e w6 ⟨rfl, rfl⟩)
    | (go_at_call 18; refine (kept_any g n A c l w5 w5.heap.size ho5.rd hr5' (by omega)).mono ?_; rintro e w6 ⟨rfl, rfl⟩)
    | (go_at_call 10; refine (works_any w5 ht5).mono ?_; rintro e w7 ⟨rfl, hb7⟩))
  go_ret
  exact ⟨rfl, hb5'.trans (hb7.mono hb5'.size)⟩

theorem walk (A : Option Addr) (n c : Nat) (l : List Nat) (w : World) (ht : Tab w) (hr : Rd .u8 256 w w.heap.size A n l) (_ : n ≤ c) (_ : c ≤ maxLen) :
    Calls Tryd.prog 3 #[.slice A n c] w fun e w' => e = .returned (.bool true) ∧ Below w.heap.size w w' := by
  by_cases h : 16384 < n
  · exact walk_long A n c w ht h
  rcases yes_or_no l with ⟨cs, hT⟩ | hT
  · exact walk_yes A n c l w ht hr (by omega) cs _ hT rfl (by have := (txt_len cs).1; rw [← hT.2, hr.len] at this; exact this)
  · exact walk_no A n c l w ht hr (by omega) hT
end Go.Proofs.YthplkkpcpkdbiaaDoor.utfChars
