/-
  Contract of the document's plain, at every kind.
-/
import Derived.Test.YtdbcdabijolagaaDoorPlain
namespace Go.Proofs.YtdbcdabijolagaaDoor.Val
open Go.RowKit Go.Proofs.YtdbcdabijolagaaDoor.Utf V

theorem GivesB.cast {p q : Bool} {w w' : World} {e : Ending} (h : GivesB p w e w') (hq : p = q) : GivesB q w e w' := hq ▸ h
theorem calls_cast {f : FuncId} {xs : Array Value} {p q : Bool} {w : World} (h : Calls Tryd.prog f xs w (GivesB p w)) (hq : p = q) : Calls Tryd.prog f xs w (GivesB q w) := hq ▸ h

theorem xplain_any (k n : Nat) (t : ByteArray) (A : Option Addr) (l c : Nat) (w : World) (hs : t.size ≤ 1073741824) (hn : n < 18446744073709551616) :
    Calls Tryd.prog 49 #[.agg #[.int .u8 k, .int .u64 n, .string t, .slice A l c]] w (GivesB (plainOk k n t l) w) := by
  rcases Nat.eq_zero_or_pos l with rfl | hl
  · by_cases hx : k = 0 ∨ 22 ≤ k
    · refine calls_cast (plx k n t A c w hx) ?_
      simp only [plainOk, aloneOk]
      rcases hx with rfl | hx
      · simp
      · by_cases h2 : k ≤ 25
        · rw [if_pos ⟨hx, h2⟩]
        · rw [if_neg (fun h => h2 h.2), if_neg (by omega), if_neg (by omega), if_neg (by omega), if_neg (by omega), Bool.and_false]
    · obtain rfl | rfl | rfl | rfl | rfl | rfl | rfl | rfl | rfl | rfl | rfl | rfl | rfl | rfl | rfl | rfl | rfl | rfl | rfl | rfl | rfl : k = 1 ∨ k = 2 ∨ k = 3 ∨ k = 4 ∨ k = 5 ∨ k = 6 ∨ k = 7 ∨ k = 8 ∨ k = 9 ∨ k = 10 ∨ k = 11 ∨ k = 12 ∨ k = 13 ∨ k = 14 ∨ k = 15 ∨ k = 16 ∨ k = 17 ∨ k = 18 ∨ k = 19 ∨ k = 20 ∨ k = 21 := by omega
      · exact calls_cast (pl1 n t A c w) (by simp [plainOk, aloneOk, Bool.and_comm])
      · exact calls_cast (pl2 n t A c w) (by simp [plainOk, aloneOk, numB, Bool.and_comm])
      · exact calls_cast (pl3 n t A c w) (by simp [plainOk, aloneOk, numB, Bool.and_comm])
      · exact calls_cast (pl4 n t A c w) (by simp [plainOk, aloneOk, numB, Bool.and_comm])
      · exact calls_cast (pl5 n t A c w) (by simp [plainOk, aloneOk, numB, Bool.and_comm])
      · exact calls_cast (pl6 n t A c w) (by simp [plainOk, aloneOk, numB, Bool.and_comm])
      · exact calls_cast (pl7 n t A c w hn) (by simp [plainOk, aloneOk, numB, Bool.and_comm])
      · exact calls_cast (pl8 n t A c w hn) (by simp [plainOk, aloneOk, numB, Bool.and_comm])
      · exact calls_cast (pl9 n t A c w hn) (by simp [plainOk, aloneOk, numB, Bool.and_comm])
      · exact calls_cast (pl10 n t A c w) (by simp [plainOk, aloneOk, numB, Bool.and_comm])
      · exact calls_cast (pl11 n t A c w) (by simp [plainOk, aloneOk, numB, Bool.and_comm])
      · exact calls_cast (pl12 n t A c w) (by simp [plainOk, aloneOk, numB, Bool.and_comm])
      · exact calls_cast (pl13 n t A c w) (by simp [plainOk, aloneOk, numB, Bool.and_comm])
      · exact calls_cast (pl14 n t A c w) (by simp [plainOk, aloneOk, numB, Bool.and_comm])
      · exact calls_cast (pl15 n t A c w) (by simp [plainOk, aloneOk, textB, Bool.and_comm])
      · exact calls_cast (pl16 n t A c w) (by simp [plainOk, aloneOk, textB, Bool.and_comm])
      · exact calls_cast (pl17 n t A c w) (by simp [plainOk, aloneOk, textB, Bool.and_comm])
      · exact calls_cast (pl18 n t A c w) (by simp [plainOk, aloneOk, textB, Bool.and_comm])
      · exact calls_cast (pl19 n t A c w) (by simp [plainOk, aloneOk, textB, Bool.and_comm])
      · exact calls_cast (pl20 n t A c w hs) (by simp [plainOk, aloneOk, textB, Bool.and_comm])
      · exact calls_cast (pl21 n t A c w hs) (by simp [plainOk, aloneOk, textB, Bool.and_comm])
  · refine calls_cast (pll k n t A l c w hl) ?_
    have h0 : decide (l = 0) = false := by simp; omega
    simp [plainOk, h0]
end Go.Proofs.YtdbcdabijolagaaDoor.Val
