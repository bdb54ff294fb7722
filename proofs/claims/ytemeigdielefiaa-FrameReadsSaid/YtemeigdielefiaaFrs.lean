/-
  frame.Read where there is a frame and where there is none; the document's Same of frames that are the same; the anchor of layer 11. Memory that was there stays. Condition: at most 2^40 bytes.
-/
import Derived.Test.YtemeigdielefiaaFrr
import Derived.Test.YtemeigdielefiaaFrw
import Derived.Test.YtemeigdielefiaaEq
namespace Go.Proofs.Ytemeigdielefiaa.Fr
set_option maxRecDepth 100000
open Go.RowKit Go.Proofs.Ytemeigdielefiaa.Utf Go.Proofs.Ytemeigdielefiaa.Enc

/-- A frame is told: its channel, how many bytes, its body of m bytes. -/
def Told (ch n m : Nat) (l : List Nat) (w : World) (e : Ending) (w' : World) : Prop := ∃ A c, e = .returned (.tuple #[.agg #[.int .u16 (ch : Int), .slice A m c], .int .i64 (n : Int), .int .i64 0]) ∧ Own .u8 256 5 w' w.heap.size A m c l ∧ Below w.heap.size w w'
theorem read_ok {A : Option Addr} {n c : Nat} {b : List Nat} {most : Nat} (ch k m : Nat) (l : List Nat) (w : World) (hr : Rd .u8 256 w w.heap.size A n b) (hnc : n ≤ c) (hn : n ≤ 1099511627776) (hm : most < 4294967296) (he : erF b most = 0) (h1 : chF b = ch) (h2 : nF b = k) (h3 : bodyF b = l) (h4 : l.length = m) :
    Calls Try.prog 16 #[.slice A n c, .int .u32 (most : Int)] w (Told ch k m l w) := (read_any A n c b most w hr hnc hn hm).mono fun e w' h => by
  unfold GivesRead at h
  rw [if_pos he, h1, h2, h3, h4] at h
  exact h
theorem read_no {A : Option Addr} {n c : Nat} {b : List Nat} {most : Nat} (q : Nat) (w : World) (hr : Rd .u8 256 w w.heap.size A n b) (hnc : n ≤ c) (hn : n ≤ 1099511627776) (hm : most < 4294967296) (he : erF b most = q) (hq : q ≠ 0) :
    Calls Try.prog 16 #[.slice A n c, .int .u32 (most : Int)] w (Says (.tuple #[.agg #[.int .u16 0, .slice none 0 0], .int .i64 0, .int .i64 (q : Int)]) w) := (read_any A n c b most w hr hnc hn hm).mono fun e w' h => by
  unfold GivesRead at h
  rw [if_neg (by rw [he]; exact hq), he] at h
  exact h
theorem read_no6 {A : Option Addr} {n c : Nat} {b : List Nat} {most : Nat} (w : World) (hr : Rd .u8 256 w w.heap.size A n b) (hnc : n ≤ c) (hn : n ≤ 1099511627776) (hm : most < 4294967296) (he : erF b most = 6) :
    Calls Try.prog 16 #[.slice A n c, .int .u32 (most : Int)] w (Says (.tuple #[.agg #[.int .u16 0, .slice none 0 0], .int .i64 0, .int .i64 6]) w) := read_no 6 w hr hnc hn hm he (by omega)
theorem read_no7 {A : Option Addr} {n c : Nat} {b : List Nat} {most : Nat} (w : World) (hr : Rd .u8 256 w w.heap.size A n b) (hnc : n ≤ c) (hn : n ≤ 1099511627776) (hm : most < 4294967296) (he : erF b most = 7) :
    Calls Try.prog 16 #[.slice A n c, .int .u32 (most : Int)] w (Says (.tuple #[.agg #[.int .u16 0, .slice none 0 0], .int .i64 0, .int .i64 7]) w) := read_no 7 w hr hnc hn hm he (by omega)
theorem same_yes (B B' : Nat) (ch : Nat) (A A' : Option Addr) (n c c' : Nat) (l : List Nat) (w : World) (hr : Rd .u8 256 w B A n l) (hr' : Rd .u8 256 w B' A' n l) (hB : B ≤ w.heap.size) (hB' : B' ≤ w.heap.size) :
    Calls Try.prog 18 #[.agg #[.int .u16 (ch : Int), .slice A n c], .agg #[.int .u16 (ch : Int), .slice A' n c']] w (Says (.bool true) w) := by
  have hb0 : Below w.heap.size w ((w.alloc (.cells #[.int .u16 (ch : Int), .slice A n c] 25)).alloc (.cells #[.int .u16 (ch : Int), .slice A' n c'] 25)) := ba (ba (Below.refl _ _) _) _
  have h1 := hr.below (hb0.mono hB)
  have h2 := hr'.below (hb0.mono hB')
  have HB0 := Lib.hid hb0
  clear hb0 hr hr'
  go_enter Try.func18, Try.ntmps18
  go_wp2_with (go_at_call 12; (with_reducible refine (eqbytes_same B B' A A' n c c' l _ h1 h2).mono ?_); rintro e w1 ⟨rfl, rfl⟩)
  go_ret
  exact ⟨rfl, HB0.out⟩

theorem same_zero (w : World) : Calls Try.prog 18 #[.agg #[.int .u16 0, .slice none 0 0], .agg #[.int .u16 0, .slice none 0 0]] w (Says (.bool true) w) := same_yes w.heap.size w.heap.size 0 none none 0 0 0 [] w (Rd.zero _ _ _ _ _) (Rd.zero _ _ _ _ _) (Nat.le_refl _) (Nat.le_refl _)
theorem w11 : layF 1 [170] = [0, 0, 0, 9, 2, 0, 0, 1, 170] := by decide
set_option maxHeartbeats 4000000 in
theorem works_any (w : World) : Calls Try.prog 9 #[] w (Says (.bool true) w) := by
  have hr0 : Rd .u8 256 (w.alloc (.cells #[.int .u8 170] 5)) (w.heap.size + 1) (some ⟨w.heap.size, 0, none⟩) 1 [170] := rd_new w 170 170 (by omega) rfl
  have hr1 : Rd .u8 256 (w.alloc (.cells #[.int .u8 170] 5)) (w.alloc (.cells #[.int .u8 170] 5)).heap.size (some ⟨w.heap.size, 0, none⟩) 1 [170] := by rw [World.size_alloc]; exact hr0
  have HR := Lib.hid hr1
  have HB0 := Lib.hid (show Below w.heap.size w (w.alloc (.cells #[.int .u8 170] 5)) from ba (Below.refl _ _) _)
  have hw := write_any 1 (some ⟨w.heap.size, 0, none⟩) 1 1 [170] _ (by omega) hr1 (by omega)
  rw [w11] at hw
  have HW := Lib.hid hw
  clear hr0 hr1 hw
  go_enter Try.func9, Try.ntmps9
  go_wp2_with fail
  refine HW.out.mono ?_
  rintro e w1 ⟨A1, n1, c1, rfl, ho1, hb1⟩
  obtain rfl : 9 = n1 := ho1.len
  have hc1 := ho1.cap.1
  have HB1 := Lib.hid (bn HB0.out hb1)
  have HO1 := Lib.hid ho1
  clear hb1 ho1
  go_wp2_with fail
  refine (read_ok (b := [0, 0, 0, 9, 2, 0, 0, 1, 170]) (most := 512) 1 9 1 [170] w1 HO1.out.rd hc1 (by omega) (by omega) (by decide) (by decide) (by decide) (by decide) rfl).mono ?_
  rintro e w2 ⟨A2, c2, rfl, ho2, hb2⟩
  have HB2 := Lib.hid (bn HB1.out hb2)
  have hr2 := (HO1.out.below hb2).rd
  have hr3 : Rd .u8 256 (w2.alloc (.cells #[.int .u16 1, .slice A2 1 c2] 25)) (w2.alloc (.cells #[.int .u16 1, .slice A2 1 c2] 25)).heap.size A1 9 [0, 0, 0, 9, 2, 0, 0, 1, 170] := hr2.call (ba (Below.refl _ _) _)
  have hr4 : Rd .u8 256 (w2.alloc (.cells #[.int .u16 1, .slice A2 1 c2] 25)) (w2.alloc (.cells #[.int .u16 1, .slice A2 1 c2] 25)).heap.size A2 1 [170] := ho2.rd.call (ba (Below.refl _ _) _)
  have hx3 : BxF (w2.alloc (.cells #[.int .u16 1, .slice A2 1 c2] 25)) w2.heap.size 1 A2 1 c2 := heap_alloc_new w2 _
  have hb3 : Below w.heap.size w (w2.alloc (.cells #[.int .u16 1, .slice A2 1 c2] 25)) := ba HB2.out _
  have HR3 := Lib.hid hr3
  have HR4 := Lib.hid hr4
  have HX3 := Lib.hid hx3
  have HB3 := Lib.hid hb3
  have HRD : Hid (Calls Try.prog 16 #[.slice A1 9 c1, .int .u32 8] (w2.alloc (.cells #[.int .u16 1, .slice A2 1 c2] 25)) (Says (.tuple #[.agg #[.int .u16 0, .slice none 0 0], .int .i64 0, .int .i64 6]) (w2.alloc (.cells #[.int .u16 1, .slice A2 1 c2] 25)))) := Lib.hid (read_no (b := [0, 0, 0, 9, 2, 0, 0, 1, 170]) (most := 8) 6 _ hr3 hc1 (by omega) (by omega) (by decide) (by omega))
  clear hr2 hr3 hr4 hx3 hb3 hb2 ho2
  go_wp2_with (go_at_call 16; (with_reducible refine HRD.out.mono ?_); rintro e w4 ⟨rfl, hb4⟩; obtain ⟨b1, o1, e1, p1, q1⟩ := (HR3.out.call hb4).2.2 (by omega); obtain ⟨b2, o2, e2, p2, q2⟩ := (HR4.out.call hb4).2.2 (by omega); have d1 := q1 3 (by simp); have d2 := q2 0 (by simp); rw [Nat.add_zero] at d2; obtain ⟨x0, x1, _, xl⟩ := (HX3.out.call hb4).all; subst e1; subst e2; clear q1 q2)

  go_ret
  exact ⟨rfl, ba (bn HB3.out hb4) _⟩
end Go.Proofs.Ytemeigdielefiaa.Fr
