/-
  Values in memory: a slice of values that is read ('Kids', 'Kd'), and one that the call itself made ('Kids true', 'Nw'). No other condition.
-/
import Derived.Test.YtdjncacknmejoaaMem
import Derived.Test.YtdjncacknmejoaaVal
import Derived.Deep.AppendLies
namespace Go.Proofs.Ytdjncacknmejoaa.Val
open Go.RowKit Go.Proofs.Ytdjncacknmejoaa.Utf V

/- The value v lies at block b from offset o on; all that it leads to lies in blocks of P (own: in rows of values that may be written). -/


section
variable {own : Bool} {w w' : World} {P P' : Nat → Prop} {ks : List V} {A : Option Addr} {l c : Nat}

end

theorem below_drewN {B : Nat} {a w : World} (h : Below B a w) (n : Nat) : Below B a (w.drewN n) := ⟨h.os, h.tape, h.output, h.size, h.block⟩

section
variable {w w' : World} {B B' : Nat} {ks : List V} {A : Option Addr} {l c : Nat}
end
end Go.Proofs.Ytdjncacknmejoaa.Val
