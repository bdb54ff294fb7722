/-
  The statement FrameReads, walked: it answers true. Memory that was there stays. No condition.
-/
import Derived.Test.YtemeigdielefiaaFap
import Derived.Test.YtemeigdielefiaaFrx
import Derived.Test.YtemeigdielefiaaFrl
namespace Go.Proofs.Ytemeigdielefiaa.frameReads
set_option maxRecDepth 100000
open Go.RowKit Go.Proofs.Ytemeigdielefiaa.Utf Go.Proofs.Ytemeigdielefiaa.Enc Go.Proofs.Ytemeigdielefiaa.Fr

theorem xread_ok {A : Option Addr} {n c : Nat} {b : List Nat} {most : Nat} (ch k m : Nat) (l : List Nat) (w : World) (hr : Rd .u8 256 w w.heap.size A n b) (hnc : n ≤ c) (hn : n ≤ 1099511627776) (hm : most < 4294967296) (he : erF b most = 0) (h1 : chF b = ch) (h2 : nF b = k) (h3 : bodyF b = l) (h4 : l.length = m) :
    Calls Try.prog 17 #[.slice A n c, .int .u32 (most : Int)] w (Fr.Told ch k m l w) := (xread_any A n c b most w hr hnc hn hm).mono fun e w' h => by
  unfold GivesRead at h
  rw [if_pos he, h1, h2, h3, h4] at h
  exact h
theorem xread_no {A : Option Addr} {n c : Nat} {b : List Nat} {most : Nat} (q : Nat) (w : World) (hr : Rd .u8 256 w w.heap.size A n b) (hnc : n ≤ c) (hn : n ≤ 1099511627776) (hm : most < 4294967296) (he : erF b most = q) (hq : q ≠ 0) :
    Calls Try.prog 17 #[.slice A n c, .int .u32 (most : Int)] w (Says (.tuple #[.agg #[.int .u16 0, .slice none 0 0], .int .i64 0, .int .i64 (q : Int)]) w) := (xread_any A n c b most w hr hnc hn hm).mono fun e w' h => by
  unfold GivesRead at h
  rw [if_neg (by rw [he]; exact hq), he] at h
  exact h
theorem walk_long (A : Option Addr) (n c most : Nat) (w : World) (h : 16384 < n) :
    Calls Try.prog 4 #[.slice A n c, .int .u32 (most : Int)] w fun e w' => e = .returned (.bool true) ∧ Below w.heap.size w w' := by
  have d : decide (16384 < (n : Int)) = true := by simp; omega
  clear h
  go_enter Try.func4, Try.ntmps4
  go_wp2_with (go_at_call 9; (with_reducible refine (works_any _).mono ?_); rintro e w1 ⟨rfl, hb1⟩)
  go_ret
  exact ⟨rfl, hb1⟩
set_option maxHeartbeats 4000000 in
theorem walk_main (A : Option Addr) (n c : Nat) (b : List Nat) (most : Nat) (w : World) (hr : Rd .u8 256 w w.heap.size A n b) (hc : n ≤ c) (hm : most < 4294967296) (hn : n ≤ 16384) :
    Calls Try.prog 4 #[.slice A n c, .int .u32 (most : Int)] w fun e w' => e = .returned (.bool true) ∧ Below w.heap.size w w' := by
  have d1 : decide (16384 < (n : Int)) = false := by simp; omega
  have HR := Lib.hid hr
  clear hr
  go_enter Try.func4, Try.ntmps4
  go_wp2_with fail
  (with_reducible refine (Rm.room A n c b w HR.out (by omega)).mono ?_)
  rintro e w1 ⟨g, rfl, hy1, hb1⟩
  have HB1 := Lib.hid hb1
  have HY1 := Lib.hid hy1
  have hgl := hy1.blk.2
  clear hb1 hy1
  go_wp2_with fail
  rcases erF_cases b most with he | he | he
  · obtain ⟨ch, hch⟩ : ∃ ch, chF b = ch := ⟨_, rfl⟩
    obtain ⟨k, hk⟩ : ∃ k, nF b = k := ⟨_, rfl⟩
    obtain ⟨l, hl⟩ : ∃ l, bodyF b = l := ⟨_, rfl⟩
    obtain ⟨m, hm2⟩ : ∃ m, l.length = m := ⟨_, rfl⟩
    (with_reducible refine (read_ok ch k m l w1 HY1.out.mine.rd (by omega) (by omega) hm he hch hk hl hm2).mono ?_)
    rintro e w2 ⟨A2, c2, rfl, ho2, hb2⟩
    have hb2' := ba hb2 (.cells #[.int .u16 (ch : Int), .slice A2 m c2] 25)
    have HB2 := Lib.hid (bn HB1.out hb2')
    have HX2 := Lib.hid (show BxF (w2.alloc (.cells #[.int .u16 (ch : Int), .slice A2 m c2] 25)) w2.heap.size ch A2 m c2 from heap_alloc_new w2 _)
    have HY2 := Lib.hid (HY1.out.below hb2')
    have HO2 := Lib.hid (ho2.alloc (.cells #[.int .u16 (ch : Int), .slice A2 m c2] 25))
    have HXR := Lib.hid (xread_ok ch k m l _ (HR.out.call HB2.out) hc (by omega) hm he hch hk hl hm2)
    clear hb2 hb2' ho2 he hch hk hl hm2
    go_wp2_with fail
    (with_reducible refine HXR.out.mono ?_)
    rintro e w3 ⟨A3, c3, rfl, ho3, hb3⟩
    have hb3' := ba hb3 (.cells #[.int .u16 (ch : Int), .slice A3 m c3] 25)
    have HB3 := Lib.hid (bn HB2.out hb3')
    have hx3 : BxF (w3.alloc (.cells #[.int .u16 (ch : Int), .slice A3 m c3] 25)) w3.heap.size ch A3 m c3 := heap_alloc_new w3 _
    have HX3 := Lib.hid hx3
    have HX2' := Lib.hid (HX2.out.call hb3')
    have HY3 := Lib.hid (HY2.out.below hb3')
    have HO2' := Lib.hid (HO2.out.below hb3')
    have HO3 := Lib.hid (ho3.alloc (.cells #[.int .u16 (ch : Int), .slice A3 m c3] 25))
    obtain ⟨x0, x1, _, _⟩ := HX2'.out.all
    obtain ⟨y0, y1, _, _⟩ := hx3.all
    clear hb3 hb3' ho3 hx3
    go_wp2_with (first
      | (go_at_call 18; (with_reducible refine (same_yes _ _ ch A2 A3 m c2 c3 l _ HO2'.out.rd HO3.out.rd (Nat.le_refl _) (Nat.le_refl _)).mono ?_); rintro e w4 ⟨rfl, hb4⟩; have HB4 := Lib.hid (bn HB3.out hb4); have HY4 := Lib.hid (HY3.out.below hb4); have HO4 := Lib.hid (HO2'.out.below hb4); obtain ⟨x0, x1, _, _⟩ := (HX2'.out.call hb4).all; clear hb4)
      | (go_at_call 14; (with_reducible refine (Rm.kept _ g n A c b _ HY4.out (HR.out.call HB4.out) (by omega)).mono ?_); rintro e w5 ⟨rfl, rfl⟩; have hrow : (w4.alloc (.cells #[.slice A2 m c2, .slice (some ⟨g, 0, none⟩) n (n + 11)] 23)).heap[w4.heap.size]? = some (.cells #[.slice A2 m c2, .slice (some ⟨g, 0, none⟩) n (n + 11)] 23 (0, 0)) := heap_alloc_new w4 _; have hA := apart2 (base := w.heap.size) (x := w1.heap.size) hrow (Own.mono (HO4.out.alloc _) HB1.out.size) (Rm.Rmy.mine (HY4.out.below (ba (Below.refl _ _) _))) (fun b o e => (HO4.out.blk b (by rw [e]; rfl)).1) (fun b o e => by injection e with e; injection e with e1 _; omega); have HA := Lib.hid hA; clear hA hrow)
      | (go_at_call 15; (with_reducible refine HA.out.mono ?_); rintro e w6 ⟨rfl, hb6⟩; have HB6 := Lib.hid (bn (ba HB4.out _) hb6); clear hb6)
      | (go_at_call 9; (with_reducible refine (works_any _).mono ?_); rintro e w8 ⟨rfl, hb8⟩)
      | fail)
    go_ret
    exact ⟨rfl, bn HB6.out hb8⟩
  · (with_reducible refine (read_no6 w1 HY1.out.mine.rd (by omega) (by omega) hm he).mono ?_)
    rintro e w2 ⟨rfl, hb2⟩
    have hb2' := ba hb2 (.cells #[.int .u16 0, .slice none 0 0] 25)
    have HB2 := Lib.hid (bn HB1.out hb2')
    have HX2 := Lib.hid (show BxF (w2.alloc (.cells #[.int .u16 0, .slice none 0 0] 25)) w2.heap.size 0 none 0 0 from heap_alloc_new w2 _)
    have HY2 := Lib.hid (HY1.out.below hb2')
    have HXR : Hid (Calls Try.prog 17 #[.slice A n c, .int .u32 (most : Int)] (w2.alloc (.cells #[.int .u16 0, .slice none 0 0] 25)) (Says (.tuple #[.agg #[.int .u16 0, .slice none 0 0], .int .i64 0, .int .i64 6]) (w2.alloc (.cells #[.int .u16 0, .slice none 0 0] 25)))) := Lib.hid (xread_no 6 _ (HR.out.call HB2.out) hc (by omega) hm he (by omega))
    clear hb2 hb2' he
    go_wp2_with fail
    (with_reducible refine HXR.out.mono ?_)
    rintro e w3 ⟨rfl, hb3⟩
    have hb3' := ba hb3 (.cells #[.int .u16 0, .slice none 0 0] 25)
    have HB3 := Lib.hid (bn HB2.out hb3')
    have hx3 : BxF (w3.alloc (.cells #[.int .u16 0, .slice none 0 0] 25)) w3.heap.size 0 none 0 0 := heap_alloc_new w3 _
    have HX2' := Lib.hid (HX2.out.call hb3')
    have HY3 := Lib.hid (HY2.out.below hb3')
    obtain ⟨x0, x1, _, _⟩ := HX2'.out.all
    obtain ⟨y0, y1, _, _⟩ := hx3.all
    clear hb3 hb3' hx3
    go_wp2_with (first
      | (go_at_call 18; (with_reducible refine (same_zero _).mono ?_); rintro e w4 ⟨rfl, hb4⟩; have HB4 := Lib.hid (bn HB3.out hb4); have HY4 := Lib.hid (HY3.out.below hb4); obtain ⟨x0, x1, _, _⟩ := (HX2'.out.call hb4).all; clear hb4)
      | (go_at_call 14; (with_reducible refine (Rm.kept _ g n A c b _ HY4.out (HR.out.call HB4.out) (by omega)).mono ?_); rintro e w5 ⟨rfl, rfl⟩; have hrow : (w4.alloc (.cells #[.slice none 0 0, .slice (some ⟨g, 0, none⟩) n (n + 11)] 23)).heap[w4.heap.size]? = some (.cells #[.slice none 0 0, .slice (some ⟨g, 0, none⟩) n (n + 11)] 23 (0, 0)) := heap_alloc_new w4 _; have hA := apart2 (base := w.heap.size) (x := w1.heap.size) hrow (Own.nil .u8 256 5 _ _) (Rm.Rmy.mine (HY4.out.below (ba (Below.refl _ _) _))) (fun b o e => by cases e) (fun b o e => by injection e with e; injection e with e1 _; omega); have HA := Lib.hid hA; clear hA hrow)
      | (go_at_call 15; (with_reducible refine HA.out.mono ?_); rintro e w6 ⟨rfl, hb6⟩; have HB6 := Lib.hid (bn (ba HB4.out _) hb6); clear hb6)
      | (go_at_call 9; (with_reducible refine (works_any _).mono ?_); rintro e w8 ⟨rfl, hb8⟩)
      | fail)
    go_ret
    exact ⟨rfl, bn HB6.out hb8⟩
  · (with_reducible refine (read_no7 w1 HY1.out.mine.rd (by omega) (by omega) hm he).mono ?_)
    rintro e w2 ⟨rfl, hb2⟩
    have hb2' := ba hb2 (.cells #[.int .u16 0, .slice none 0 0] 25)
    have HB2 := Lib.hid (bn HB1.out hb2')
    have HX2 := Lib.hid (show BxF (w2.alloc (.cells #[.int .u16 0, .slice none 0 0] 25)) w2.heap.size 0 none 0 0 from heap_alloc_new w2 _)
    have HY2 := Lib.hid (HY1.out.below hb2')
    have HXR : Hid (Calls Try.prog 17 #[.slice A n c, .int .u32 (most : Int)] (w2.alloc (.cells #[.int .u16 0, .slice none 0 0] 25)) (Says (.tuple #[.agg #[.int .u16 0, .slice none 0 0], .int .i64 0, .int .i64 7]) (w2.alloc (.cells #[.int .u16 0, .slice none 0 0] 25)))) := Lib.hid (xread_no 7 _ (HR.out.call HB2.out) hc (by omega) hm he (by omega))
    clear hb2 hb2' he
    go_wp2_with fail
    (with_reducible refine HXR.out.mono ?_)
    rintro e w3 ⟨rfl, hb3⟩
    have hb3' := ba hb3 (.cells #[.int .u16 0, .slice none 0 0] 25)
    have HB3 := Lib.hid (bn HB2.out hb3')
    have hx3 : BxF (w3.alloc (.cells #[.int .u16 0, .slice none 0 0] 25)) w3.heap.size 0 none 0 0 := heap_alloc_new w3 _
    have HX2' := Lib.hid (HX2.out.call hb3')
    have HY3 := Lib.hid (HY2.out.below hb3')
    obtain ⟨x0, x1, _, _⟩ := HX2'.out.all
    obtain ⟨y0, y1, _, _⟩ := hx3.all
    clear hb3 hb3' hx3
    go_wp2_with (first
      | (go_at_call 18; (with_reducible refine (same_zero _).mono ?_); rintro e w4 ⟨rfl, hb4⟩; have HB4 := Lib.hid (bn HB3.out hb4); have HY4 := Lib.hid (HY3.out.below hb4); obtain ⟨x0, x1, _, _⟩ := (HX2'.out.call hb4).all; clear hb4)
      | (go_at_call 14; (with_reducible refine (Rm.kept _ g n A c b _ HY4.out (HR.out.call HB4.out) (by omega)).mono ?_); rintro e w5 ⟨rfl, rfl⟩; have hrow : (w4.alloc (.cells #[.slice none 0 0, .slice (some ⟨g, 0, none⟩) n (n + 11)] 23)).heap[w4.heap.size]? = some (.cells #[.slice none 0 0, .slice (some ⟨g, 0, none⟩) n (n + 11)] 23 (0, 0)) := heap_alloc_new w4 _; have hA := apart2 (base := w.heap.size) (x := w1.heap.size) hrow (Own.nil .u8 256 5 _ _) (Rm.Rmy.mine (HY4.out.below (ba (Below.refl _ _) _))) (fun b o e => by cases e) (fun b o e => by injection e with e; injection e with e1 _; omega); have HA := Lib.hid hA; clear hA hrow)
      | (go_at_call 15; (with_reducible refine HA.out.mono ?_); rintro e w6 ⟨rfl, hb6⟩; have HB6 := Lib.hid (bn (ba HB4.out _) hb6); clear hb6)
      | (go_at_call 9; (with_reducible refine (works_any _).mono ?_); rintro e w8 ⟨rfl, hb8⟩)
      | fail)
    go_ret
    exact ⟨rfl, bn HB6.out hb8⟩
theorem walk (A : Option Addr) (n c : Nat) (b : List Nat) (most : Nat) (w : World) (hr : Rd .u8 256 w w.heap.size A n b) (hc : n ≤ c) (hm : most < 4294967296) :
    Calls Try.prog 4 #[.slice A n c, .int .u32 (most : Int)] w fun e w' => e = .returned (.bool true) ∧ Below w.heap.size w w' := by
  by_cases h : 16384 < n
  · exact walk_long A n c most w h
  · exact walk_main A n c b most w hr hc hm (by omega)
end Go.Proofs.Ytemeigdielefiaa.frameReads
