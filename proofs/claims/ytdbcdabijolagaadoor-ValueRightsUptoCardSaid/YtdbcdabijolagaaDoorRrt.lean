/-
  Contract of the document's Right of bytes: it tells whether they are the text of some characters. Memory that was there stays. Condition: at most 2^30 bytes.
-/
import Derived.Test.YtdbcdabijolagaaDoorRchr
namespace Go.Proofs.YtdbcdabijolagaaDoor.Utf
open Go.RowKit

theorem rright_any (A : Option Addr) (n c : Nat) (l : List Nat) (w : World) (hr : Rd .u8 256 w w.heap.size A n l) (hn : n ≤ 1073741824) :
    Calls Tryd.prog 58 #[.slice A n c] w fun e w' => (((∃ cs, IsT l cs) ∧ e = .returned (.bool true)) ∨ (NoT l ∧ e = .returned (.bool false))) ∧ Below w.heap.size w w' := by
  go_enter Tryd.func58, Tryd.ntmps58
  go_wp2_with fail
  refine (rchars_any A n c l w hr hn).mono ?_
  rintro e w1 ⟨⟨cs, A1, n1, c1, hT, rfl, _⟩ | ⟨hN, rfl⟩, hb⟩
  · have HT := Lib.hid hT
    clear hT
    go_wp2
    go_ret
    exact ⟨.inl ⟨⟨cs, HT.out⟩, rfl⟩, hb⟩
  · have HN := Lib.hid hN
    clear hN
    go_wp2
    go_ret
    exact ⟨.inr ⟨HN.out, rfl⟩, hb⟩
end Go.Proofs.YtdbcdabijolagaaDoor.Utf
