/-
  Messages, plain: the bytes of sections in any order, made one by one (MessageOrder). No Go in it.
-/
import Derived.Test.YtcilmmdmkpnppaaGreatDoorY23
import Derived.Test.YtcilmmdmkpnppaaGreatDoorY24
namespace Go.Proofs.YtcilmmdmkpnppaaGreatDoor.Me
set_option maxRecDepth 100000
open Go.RowKit Utf Val Fl Oc Dec V
open Enc hiding nullV
def kO (Z:List Nat)(j:Nat):Nat:=Z.getD j 0 % 10
def BadO (Z:List Nat)(q:Bool)(l i:Nat):Prop:=q=true∧i+1=l∧kO Z i≠5
instance (Z:List Nat) (q:Bool) (l i:Nat):Decidable (BadO Z q l i):=by unfold BadO;infer_instance
end Go.Proofs.YtcilmmdmkpnppaaGreatDoor.Me
