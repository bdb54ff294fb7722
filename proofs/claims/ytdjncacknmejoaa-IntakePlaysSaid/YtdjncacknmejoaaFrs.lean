/-
  frame.Read where there is a frame and where there is none; the document's Same of frames that are the same; the anchor of layer 11. Memory that was there stays. Condition: at most 2^40 bytes.
-/
import Derived.Test.YtdjncacknmejoaaFrr
import Derived.Test.YtdjncacknmejoaaFrw
import Derived.Test.YtdjncacknmejoaaEq
namespace Go.Proofs.Ytdjncacknmejoaa.Fr
set_option maxRecDepth 100000
open Go.RowKit Go.Proofs.Ytdjncacknmejoaa.Utf Go.Proofs.Ytdjncacknmejoaa.Enc

/-- A frame is told: its channel, how many bytes, its body of m bytes. -/
def Told (ch n m : Nat) (l : List Nat) (w : World) (e : Ending) (w' : World) : Prop := ∃ A c, e = .returned (.tuple #[.agg #[.int .u16 (ch : Int), .slice A m c], .int .i64 (n : Int), .int .i64 0]) ∧ Own .u8 256 5 w' w.heap.size A m c l ∧ Below w.heap.size w w'
theorem read_ok {A : Option Addr} {n c : Nat} {b : List Nat} {most : Nat} (ch k m : Nat) (l : List Nat) (w : World) (hr : Rd .u8 256 w w.heap.size A n b) (hnc : n ≤ c) (hn : n ≤ 1099511627776) (hm : most < 4294967296) (he : erF b most = 0) (h1 : chF b = ch) (h2 : nF b = k) (h3 : bodyF b = l) (h4 : l.length = m) :
    Calls Try.prog 26 #[.slice A n c, .int .u32 (most : Int)] w (Told ch k m l w) := (read_any A n c b most w hr hnc hn hm).mono fun e w' h => by
  unfold GivesRead at h
  rw [if_pos he, h1, h2, h3, h4] at h
  exact h
theorem read_no {A : Option Addr} {n c : Nat} {b : List Nat} {most : Nat} (q : Nat) (w : World) (hr : Rd .u8 256 w w.heap.size A n b) (hnc : n ≤ c) (hn : n ≤ 1099511627776) (hm : most < 4294967296) (he : erF b most = q) (hq : q ≠ 0) :
    Calls Try.prog 26 #[.slice A n c, .int .u32 (most : Int)] w (Says (.tuple #[.agg #[.int .u16 0, .slice none 0 0], .int .i64 0, .int .i64 (q : Int)]) w) := (read_any A n c b most w hr hnc hn hm).mono fun e w' h => by
  unfold GivesRead at h
  rw [if_neg (by rw [he]; exact hq), he] at h
  exact h
theorem read_no6 {A : Option Addr} {n c : Nat} {b : List Nat} {most : Nat} (w : World) (hr : Rd .u8 256 w w.heap.size A n b) (hnc : n ≤ c) (hn : n ≤ 1099511627776) (hm : most < 4294967296) (he : erF b most = 6) :
    Calls Try.prog 26 #[.slice A n c, .int .u32 (most : Int)] w (Says (.tuple #[.agg #[.int .u16 0, .slice none 0 0], .int .i64 0, .int .i64 6]) w) := read_no 6 w hr hnc hn hm he (by omega)
theorem read_no7 {A : Option Addr} {n c : Nat} {b : List Nat} {most : Nat} (w : World) (hr : Rd .u8 256 w w.heap.size A n b) (hnc : n ≤ c) (hn : n ≤ 1099511627776) (hm : most < 4294967296) (he : erF b most = 7) :
    Calls Try.prog 26 #[.slice A n c, .int .u32 (most : Int)] w (Says (.tuple #[.agg #[.int .u16 0, .slice none 0 0], .int .i64 0, .int .i64 7]) w) := read_no 7 w hr hnc hn hm he (by omega)
theorem same_yes (B B' : Nat) (ch : Nat) (A A' : Option Addr) (n c c' : Nat) (l : List Nat) (w : World) (hr : Rd .u8 256 w B A n l) (hr' : Rd .u8 256 w B' A' n l) (hB : B ≤ w.heap.size) (hB' : B' ≤ w.heap.size) :
    Calls Try.prog 19 #[.agg #[.int .u16 (ch : Int), .slice A n c], .agg #[.int .u16 (ch : Int), .slice A' n c']] w (Says (.bool true) w) := by
  have hb0 : Below w.heap.size w ((w.alloc (.cells #[.int .u16 (ch : Int), .slice A n c] 39)).alloc (.cells #[.int .u16 (ch : Int), .slice A' n c'] 39)) := ba (ba (Below.refl _ _) _) _
  have h1 := hr.below (hb0.mono hB)
  have h2 := hr'.below (hb0.mono hB')
  have HB0 := Lib.hid hb0
  clear hb0 hr hr'
  go_enter Try.func19, Try.ntmps19
  go_wp2_with (go_at_call 25; (with_reducible refine (eqbytes_same B B' A A' n c c' l _ h1 h2).mono ?_); rintro e w1 ⟨rfl, rfl⟩)
  go_ret
  exact ⟨rfl, HB0.out⟩

theorem same_zero (w : World) : Calls Try.prog 19 #[.agg #[.int .u16 0, .slice none 0 0], .agg #[.int .u16 0, .slice none 0 0]] w (Says (.bool true) w) := same_yes w.heap.size w.heap.size 0 none none 0 0 0 [] w (Rd.zero _ _ _ _ _) (Rd.zero _ _ _ _ _) (Nat.le_refl _) (Nat.le_refl _)
theorem w11 : layF 1 [170] = [0, 0, 0, 9, 2, 0, 0, 1, 170] := by decide
end Go.Proofs.Ytdjncacknmejoaa.Fr
