/-
  No cell of these rows narrows 'for every input' (looked for: loops, veiled, ifaces, maps, wideKeys, modest, calm, conditions, laid).
  DERIVED. THE GIVEN ROWS OF THIS SEAT. 5 by the template 'for every input the law returns true; each argument reads behind the call as it read before'; 0 by the template 'total and deterministic' (their statements: YtbbbanfggcediaaTotals.lean).
  GIVEN WITH THE SEED: the statements are not yours to turn. If you find one false, say at which input.
  Laid BY PROGRAM, IN A SANDBOX (cutbox-rows.mjs): the forced cells as the released guide's own fill.sh prints them over the translation cc6cd6ac94bafe76… (all of the seat's roots in one cut). By AI agents, Wed Nov 11 2026. No macro, syntax, notation, axiom, sorry.
-/
import Derived.Test.YtbbbanfggcediaaChecked
import GoSem.Claim
import GoSem.ClaimJoined
import GoSem.ClaimMapViews
import Derived.JoinedTies
import Derived.KernelRfl
namespace Go.Proofs.Ytbbbanfggcediaa
/- THE CELL 'sum', in the pinned program and in every row, IS THE sha256 OF THE DUMP (.gsa) THAT YtbbbanfggcediaaProg.lean LOADS. Nothing in Lean hashes anything: it is a label: what it is worth is what the hold of that sum in a sandbox is worth. -/
noncomputable def Try.pinned : Pinned := { name := "ytbbbanfggcediaa", sum := "cc6cd6ac94bafe76e24f9c05e4dcab708c0964ecb5396786c86834c771a1b9ac", checked := Try.checked }
namespace Rows
def none {H : Type} : Left H := { results := [], args := [] }

/-- 'bellwetherlaw14.IdleMeets': WHATEVER THE INPUT: true; the input reads as it did. -/
def idleMeetsSpec : ChangeSpec := { name := "idleMeets", fn := fun _ => fun
  | [d1, d2, d3, d4] => { results := [.lit (.bool true)], args := [d1, d2, d3, d4] }
  | _ => none }
def idleMeetsRow : OpenClaim := { program := "ytbbbanfggcediaa", sum := "cc6cd6ac94bafe76e24f9c05e4dcab708c0964ecb5396786c86834c771a1b9ac", func := "bellwether/bellwetherlaw14.IdleMeets", spec := "idleMeets", unfollowed := true, recurses := true, apart := false }
def IdleMeetsSaid : Prop := idleMeetsRow.holds Try.pinned (OpenSpec.ofChange idleMeetsSpec)

/-- ITS FALSE NEIGHBOUR: 'it returns false'. Refute it at one input. -/
def idleMeetsWrong : ChangeSpec := { name := "idleMeets", fn := fun _ => fun
  | [d1, d2, d3, d4] => { results := [.lit (.bool false)], args := [d1, d2, d3, d4] }
  | _ => none }
def IdleMeetsWrongFalsely : Prop := idleMeetsRow.holds Try.pinned (OpenSpec.ofChange idleMeetsWrong)

/-- 'bellwetherlaw14.IdleSilent': WHATEVER THE INPUT: true; the input reads as it did. -/
def idleSilentSpec : ChangeSpec := { name := "idleSilent", fn := fun _ => fun
  | [d1, d2] => { results := [.lit (.bool true)], args := [d1, d2] }
  | _ => none }
def idleSilentRow : OpenClaim := { program := "ytbbbanfggcediaa", sum := "cc6cd6ac94bafe76e24f9c05e4dcab708c0964ecb5396786c86834c771a1b9ac", func := "bellwether/bellwetherlaw14.IdleSilent", spec := "idleSilent", unfollowed := true, recurses := true, apart := false }
def IdleSilentSaid : Prop := idleSilentRow.holds Try.pinned (OpenSpec.ofChange idleSilentSpec)

/-- ITS FALSE NEIGHBOUR: 'it returns false'. Refute it at one input. -/
def idleSilentWrong : ChangeSpec := { name := "idleSilent", fn := fun _ => fun
  | [d1, d2] => { results := [.lit (.bool false)], args := [d1, d2] }
  | _ => none }
def IdleSilentWrongFalsely : Prop := idleSilentRow.holds Try.pinned (OpenSpec.ofChange idleSilentWrong)

/-- 'bellwetherlaw14.IdleFree': WHATEVER THE INPUT: true; the input reads as it did. -/
def idleFreeSpec : ChangeSpec := { name := "idleFree", fn := fun _ => fun
  | [d1, d2] => { results := [.lit (.bool true)], args := [d1, d2] }
  | _ => none }
def idleFreeRow : OpenClaim := { program := "ytbbbanfggcediaa", sum := "cc6cd6ac94bafe76e24f9c05e4dcab708c0964ecb5396786c86834c771a1b9ac", func := "bellwether/bellwetherlaw14.IdleFree", spec := "idleFree", unfollowed := true, recurses := true, apart := false }
def IdleFreeSaid : Prop := idleFreeRow.holds Try.pinned (OpenSpec.ofChange idleFreeSpec)

/-- ITS FALSE NEIGHBOUR: 'it returns false'. Refute it at one input. -/
def idleFreeWrong : ChangeSpec := { name := "idleFree", fn := fun _ => fun
  | [d1, d2] => { results := [.lit (.bool false)], args := [d1, d2] }
  | _ => none }
def IdleFreeWrongFalsely : Prop := idleFreeRow.holds Try.pinned (OpenSpec.ofChange idleFreeWrong)

/-- 'bellwetherlaw14.IdleSplit': WHATEVER THE INPUT: true; the input reads as it did. -/
def idleSplitSpec : ChangeSpec := { name := "idleSplit", fn := fun _ => fun
  | [d1, d2, d3, d4] => { results := [.lit (.bool true)], args := [d1, d2, d3, d4] }
  | _ => none }
def idleSplitRow : OpenClaim := { program := "ytbbbanfggcediaa", sum := "cc6cd6ac94bafe76e24f9c05e4dcab708c0964ecb5396786c86834c771a1b9ac", func := "bellwether/bellwetherlaw14.IdleSplit", spec := "idleSplit", unfollowed := true, recurses := true, apart := false }
def IdleSplitSaid : Prop := idleSplitRow.holds Try.pinned (OpenSpec.ofChange idleSplitSpec)

/-- ITS FALSE NEIGHBOUR: 'it returns false'. Refute it at one input. -/
def idleSplitWrong : ChangeSpec := { name := "idleSplit", fn := fun _ => fun
  | [d1, d2, d3, d4] => { results := [.lit (.bool false)], args := [d1, d2, d3, d4] }
  | _ => none }
def IdleSplitWrongFalsely : Prop := idleSplitRow.holds Try.pinned (OpenSpec.ofChange idleSplitWrong)

/-- 'bellwetherlaw14.IdleNil': WHATEVER THE INPUT: true; the input reads as it did. -/
def idleNilSpec : ChangeSpec := { name := "idleNil", fn := fun _ => fun
  | [d] => { results := [.lit (.bool true)], args := [d] }
  | _ => none }
def idleNilRow : OpenClaim := { program := "ytbbbanfggcediaa", sum := "cc6cd6ac94bafe76e24f9c05e4dcab708c0964ecb5396786c86834c771a1b9ac", func := "bellwether/bellwetherlaw14.IdleNil", spec := "idleNil", unfollowed := true, recurses := true, apart := false }
def IdleNilSaid : Prop := idleNilRow.holds Try.pinned (OpenSpec.ofChange idleNilSpec)

/-- ITS FALSE NEIGHBOUR: 'it returns false'. Refute it at one input. -/
def idleNilWrong : ChangeSpec := { name := "idleNil", fn := fun _ => fun
  | [d] => { results := [.lit (.bool false)], args := [d] }
  | _ => none }
def IdleNilWrongFalsely : Prop := idleNilRow.holds Try.pinned (OpenSpec.ofChange idleNilWrong)

/- THE SECOND FORM. 'bulk': how many values and letters a reading holds, each counted each time it is reached (what is shared counts as often as it is met; a slice's spare places count too). A statement '..UptoSaid' is the law's where the arguments, and the package variables that the reading takes, are together of bulk at most 1048576: NARROWER than '..Said'. Prove '..Said' where nothing that the law and all that it calls make is longer than what came in: it says more and counts as full. Else prove '..UptoSaid'. A law counts once. -/
mutual
def uptoBulk {H : Type} : DataW H → Nat
  | .lit (.string bytes) => bytes.length + 1
  | .lit _ => 1
  | .nil => 1
  | .ptr d => uptoBulk d + 1
  | .slice elems spare => uptoBulkAll elems + uptoBulkAll spare + 1
  | .agg parts => uptoBulkAll parts + 1
  | .iface _ d => uptoBulk d + 1
  | .map entries => uptoBulkEntries entries + 1
  | .held _ => 1
def uptoBulkAll {H : Type} : List (DataW H) → Nat
  | [] => 0
  | d :: r => uptoBulk d + uptoBulkAll r
def uptoBulkEntries {H : Type} : List (Lit × DataW H) → Nat
  | [] => 0
  | x :: r => uptoBulkEntry x + uptoBulkEntries r
def uptoBulkEntry {H : Type} : Lit × DataW H → Nat
  | (.string bytes, d) => bytes.length + uptoBulk d + 1
  | (_, d) => uptoBulk d + 1
 end
def uptoSmall : (H : Type) → List (DataW H) → Bool := fun _ ds => decide (uptoBulkAll ds ≤ 1048576)
def OpenSpec.upto (s : _root_.Go.ChangeSpec) : _root_.Go.OpenSpec := { _root_.Go.OpenSpec.ofChange s with cond := some uptoSmall }

/-- 'bellwetherlaw14.IdleMeets', WHERE WHAT IT READS IS OF BULK AT MOST 1048576: true; the input reads as it did. -/
def idleMeetsUptoRow : OpenClaim := { program := "ytbbbanfggcediaa", sum := "cc6cd6ac94bafe76e24f9c05e4dcab708c0964ecb5396786c86834c771a1b9ac", func := "bellwether/bellwetherlaw14.IdleMeets", spec := "idleMeets", unfollowed := true, recurses := true, apart := false, narrowed := true }
def IdleMeetsUptoSaid : Prop := idleMeetsUptoRow.holds Try.pinned (OpenSpec.upto idleMeetsSpec)

/-- 'bellwetherlaw14.IdleSilent', WHERE WHAT IT READS IS OF BULK AT MOST 1048576: true; the input reads as it did. -/
def idleSilentUptoRow : OpenClaim := { program := "ytbbbanfggcediaa", sum := "cc6cd6ac94bafe76e24f9c05e4dcab708c0964ecb5396786c86834c771a1b9ac", func := "bellwether/bellwetherlaw14.IdleSilent", spec := "idleSilent", unfollowed := true, recurses := true, apart := false, narrowed := true }
def IdleSilentUptoSaid : Prop := idleSilentUptoRow.holds Try.pinned (OpenSpec.upto idleSilentSpec)

/-- 'bellwetherlaw14.IdleFree', WHERE WHAT IT READS IS OF BULK AT MOST 1048576: true; the input reads as it did. -/
def idleFreeUptoRow : OpenClaim := { program := "ytbbbanfggcediaa", sum := "cc6cd6ac94bafe76e24f9c05e4dcab708c0964ecb5396786c86834c771a1b9ac", func := "bellwether/bellwetherlaw14.IdleFree", spec := "idleFree", unfollowed := true, recurses := true, apart := false, narrowed := true }
def IdleFreeUptoSaid : Prop := idleFreeUptoRow.holds Try.pinned (OpenSpec.upto idleFreeSpec)

/-- 'bellwetherlaw14.IdleSplit', WHERE WHAT IT READS IS OF BULK AT MOST 1048576: true; the input reads as it did. -/
def idleSplitUptoRow : OpenClaim := { program := "ytbbbanfggcediaa", sum := "cc6cd6ac94bafe76e24f9c05e4dcab708c0964ecb5396786c86834c771a1b9ac", func := "bellwether/bellwetherlaw14.IdleSplit", spec := "idleSplit", unfollowed := true, recurses := true, apart := false, narrowed := true }
def IdleSplitUptoSaid : Prop := idleSplitUptoRow.holds Try.pinned (OpenSpec.upto idleSplitSpec)

/-- 'bellwetherlaw14.IdleNil', WHERE WHAT IT READS IS OF BULK AT MOST 1048576: true; the input reads as it did. -/
def idleNilUptoRow : OpenClaim := { program := "ytbbbanfggcediaa", sum := "cc6cd6ac94bafe76e24f9c05e4dcab708c0964ecb5396786c86834c771a1b9ac", func := "bellwether/bellwetherlaw14.IdleNil", spec := "idleNil", unfollowed := true, recurses := true, apart := false, narrowed := true }
def IdleNilUptoSaid : Prop := idleNilUptoRow.holds Try.pinned (OpenSpec.upto idleNilSpec)

end Rows
end Go.Proofs.Ytbbbanfggcediaa
