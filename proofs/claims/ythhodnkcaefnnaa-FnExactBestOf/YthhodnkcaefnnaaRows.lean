/-
  No cell of these rows narrows 'for every input' (looked for: loops, veiled, ifaces, maps, wideKeys, modest, calm, conditions, laid).
  DERIVED. THE GIVEN ROWS OF THIS SEAT. 5 by the template 'for every input the law returns true; each argument reads behind the call as it read before'; 0 by the template 'total and deterministic' (their statements: YthhodnkcaefnnaaTotals.lean).
  GIVEN WITH THE SEED: the statements are not yours to turn. If you find one false, say at which input.
  Laid BY PROGRAM, IN A SANDBOX (cutbox-rows.mjs): the forced cells as the released guide's own fill.sh prints them over the translation 612fa1faf8dbfe62… (all of the seat's roots in one cut). By AI agents, Wed Nov 11 2026. No macro, syntax, notation, axiom, sorry.
-/
import Derived.Test.YthhodnkcaefnnaaChecked
import GoSem.Claim
import GoSem.ClaimJoined
import GoSem.ClaimMapViews
import Derived.JoinedTies
import Derived.KernelRfl
namespace Go.Proofs.Ythhodnkcaefnnaa
/- THE CELL 'sum', in the pinned program and in every row, IS THE sha256 OF THE DUMP (.gsa) THAT YthhodnkcaefnnaaProg.lean LOADS. Nothing in Lean hashes anything: it is a label: what it is worth is what the hold of that sum in a sandbox is worth. -/
noncomputable def Try.pinned : Pinned := { name := "ythhodnkcaefnnaa", sum := "612fa1faf8dbfe6202d64c2b635794c0bccb06d5e0fef3dffacdf998fb4b9c9b", checked := Try.checked }
namespace Rows
def none {H : Type} : Left H := { results := [], args := [] }

/-- 'laws.FnExactRouteRight': WHATEVER THE INPUT: true; the input reads as it did. -/
def fnExactRouteRightSpec : ChangeSpec := { name := "fnExactRouteRight", fn := fun _ => fun
  | [d] => { results := [.lit (.bool true)], args := [d] }
  | _ => none }
def fnExactRouteRightRow : OpenClaim := { program := "ythhodnkcaefnnaa", sum := "612fa1faf8dbfe6202d64c2b635794c0bccb06d5e0fef3dffacdf998fb4b9c9b", func := "loop.example/g00667/laws.FnExactRouteRight", spec := "fnExactRouteRight", plainKeys := false, apart := false }
def FnExactRouteRightSaid : Prop := fnExactRouteRightRow.holds Try.pinned (OpenSpec.ofChange fnExactRouteRightSpec)

/-- ITS FALSE NEIGHBOUR: 'it returns false'. Refute it at one input. -/
def fnExactRouteRightWrong : ChangeSpec := { name := "fnExactRouteRight", fn := fun _ => fun
  | [d] => { results := [.lit (.bool false)], args := [d] }
  | _ => none }
def FnExactRouteRightWrongFalsely : Prop := fnExactRouteRightRow.holds Try.pinned (OpenSpec.ofChange fnExactRouteRightWrong)

/-- 'laws.FnExactRouteBytes': WHATEVER THE INPUT: true; the input reads as it did. -/
def fnExactRouteBytesSpec : ChangeSpec := { name := "fnExactRouteBytes", fn := fun _ => fun
  | [d] => { results := [.lit (.bool true)], args := [d] }
  | _ => none }
def fnExactRouteBytesRow : OpenClaim := { program := "ythhodnkcaefnnaa", sum := "612fa1faf8dbfe6202d64c2b635794c0bccb06d5e0fef3dffacdf998fb4b9c9b", func := "loop.example/g00667/laws.FnExactRouteBytes", spec := "fnExactRouteBytes", plainKeys := false, apart := false }
def FnExactRouteBytesSaid : Prop := fnExactRouteBytesRow.holds Try.pinned (OpenSpec.ofChange fnExactRouteBytesSpec)

/-- ITS FALSE NEIGHBOUR: 'it returns false'. Refute it at one input. -/
def fnExactRouteBytesWrong : ChangeSpec := { name := "fnExactRouteBytes", fn := fun _ => fun
  | [d] => { results := [.lit (.bool false)], args := [d] }
  | _ => none }
def FnExactRouteBytesWrongFalsely : Prop := fnExactRouteBytesRow.holds Try.pinned (OpenSpec.ofChange fnExactRouteBytesWrong)

/-- 'laws.FnExactKeyOf': WHATEVER THE INPUT: true; the input reads as it did. -/
def fnExactKeyOfSpec : ChangeSpec := { name := "fnExactKeyOf", fn := fun _ => fun
  | [d] => { results := [.lit (.bool true)], args := [d] }
  | _ => none }
def fnExactKeyOfRow : OpenClaim := { program := "ythhodnkcaefnnaa", sum := "612fa1faf8dbfe6202d64c2b635794c0bccb06d5e0fef3dffacdf998fb4b9c9b", func := "loop.example/g00667/laws.FnExactKeyOf", spec := "fnExactKeyOf", plainKeys := false, apart := false }
def FnExactKeyOfSaid : Prop := fnExactKeyOfRow.holds Try.pinned (OpenSpec.ofChange fnExactKeyOfSpec)

/-- ITS FALSE NEIGHBOUR: 'it returns false'. Refute it at one input. -/
def fnExactKeyOfWrong : ChangeSpec := { name := "fnExactKeyOf", fn := fun _ => fun
  | [d] => { results := [.lit (.bool false)], args := [d] }
  | _ => none }
def FnExactKeyOfWrongFalsely : Prop := fnExactKeyOfRow.holds Try.pinned (OpenSpec.ofChange fnExactKeyOfWrong)

/-- 'laws.FnExactBetter': WHATEVER THE INPUT: true; the input reads as it did. -/
def fnExactBetterSpec : ChangeSpec := { name := "fnExactBetter", fn := fun _ => fun
  | [d1, d2] => { results := [.lit (.bool true)], args := [d1, d2] }
  | _ => none }
def fnExactBetterRow : OpenClaim := { program := "ythhodnkcaefnnaa", sum := "612fa1faf8dbfe6202d64c2b635794c0bccb06d5e0fef3dffacdf998fb4b9c9b", func := "loop.example/g00667/laws.FnExactBetter", spec := "fnExactBetter", plainKeys := false, apart := false }
def FnExactBetterSaid : Prop := fnExactBetterRow.holds Try.pinned (OpenSpec.ofChange fnExactBetterSpec)

/-- ITS FALSE NEIGHBOUR: 'it returns false'. Refute it at one input. -/
def fnExactBetterWrong : ChangeSpec := { name := "fnExactBetter", fn := fun _ => fun
  | [d1, d2] => { results := [.lit (.bool false)], args := [d1, d2] }
  | _ => none }
def FnExactBetterWrongFalsely : Prop := fnExactBetterRow.holds Try.pinned (OpenSpec.ofChange fnExactBetterWrong)

/-- 'laws.FnExactBestOf': WHATEVER THE INPUT: true; the input reads as it did. -/
def fnExactBestOfSpec : ChangeSpec := { name := "fnExactBestOf", fn := fun _ => fun
  | [d1, d2, d3] => { results := [.lit (.bool true)], args := [d1, d2, d3] }
  | _ => none }
def fnExactBestOfRow : OpenClaim := { program := "ythhodnkcaefnnaa", sum := "612fa1faf8dbfe6202d64c2b635794c0bccb06d5e0fef3dffacdf998fb4b9c9b", func := "loop.example/g00667/laws.FnExactBestOf", spec := "fnExactBestOf", unfollowed := true, recurses := true, plainKeys := false, apart := false }
def FnExactBestOfSaid : Prop := fnExactBestOfRow.holds Try.pinned (OpenSpec.ofChange fnExactBestOfSpec)

/-- ITS FALSE NEIGHBOUR: 'it returns false'. Refute it at one input. -/
def fnExactBestOfWrong : ChangeSpec := { name := "fnExactBestOf", fn := fun _ => fun
  | [d1, d2, d3] => { results := [.lit (.bool false)], args := [d1, d2, d3] }
  | _ => none }
def FnExactBestOfWrongFalsely : Prop := fnExactBestOfRow.holds Try.pinned (OpenSpec.ofChange fnExactBestOfWrong)

/- THE SECOND FORM. 'bulk': how many values and letters a reading holds, each counted each time it is reached (what is shared counts as often as it is met; a slice's spare places count too). A statement '..UptoSaid' is the law's where the arguments, and the package variables that the reading takes, are together of bulk at most 1048576: NARROWER than '..Said'. Prove '..Said' where nothing that the law and all that it calls make is longer than what came in: it says more and counts as full. Else prove '..UptoSaid'. A law counts once. -/
mutual
def uptoBulk {H : Type} : DataW H → Nat
  | .lit (.string bytes) => bytes.length + 1
  | .lit _ => 1
  | .nil => 1
  | .ptr d => uptoBulk d + 1
  | .slice elems spare => uptoBulkAll elems + uptoBulkAll spare + 1
  | .agg parts => uptoBulkAll parts + 1
  | .iface _ d => uptoBulk d + 1
  | .map entries => uptoBulkEntries entries + 1
  | .held _ => 1
def uptoBulkAll {H : Type} : List (DataW H) → Nat
  | [] => 0
  | d :: r => uptoBulk d + uptoBulkAll r
def uptoBulkEntries {H : Type} : List (Lit × DataW H) → Nat
  | [] => 0
  | x :: r => uptoBulkEntry x + uptoBulkEntries r
def uptoBulkEntry {H : Type} : Lit × DataW H → Nat
  | (.string bytes, d) => bytes.length + uptoBulk d + 1
  | (_, d) => uptoBulk d + 1
 end
def uptoSmall : (H : Type) → List (DataW H) → Bool := fun _ ds => decide (uptoBulkAll ds ≤ 1048576)
def OpenSpec.upto (s : _root_.Go.ChangeSpec) : _root_.Go.OpenSpec := { _root_.Go.OpenSpec.ofChange s with cond := some uptoSmall }

/-- 'laws.FnExactRouteRight', WHERE WHAT IT READS IS OF BULK AT MOST 1048576: true; the input reads as it did. -/
def fnExactRouteRightUptoRow : OpenClaim := { program := "ythhodnkcaefnnaa", sum := "612fa1faf8dbfe6202d64c2b635794c0bccb06d5e0fef3dffacdf998fb4b9c9b", func := "loop.example/g00667/laws.FnExactRouteRight", spec := "fnExactRouteRight", plainKeys := false, apart := false, narrowed := true }
def FnExactRouteRightUptoSaid : Prop := fnExactRouteRightUptoRow.holds Try.pinned (OpenSpec.upto fnExactRouteRightSpec)

/-- 'laws.FnExactRouteBytes', WHERE WHAT IT READS IS OF BULK AT MOST 1048576: true; the input reads as it did. -/
def fnExactRouteBytesUptoRow : OpenClaim := { program := "ythhodnkcaefnnaa", sum := "612fa1faf8dbfe6202d64c2b635794c0bccb06d5e0fef3dffacdf998fb4b9c9b", func := "loop.example/g00667/laws.FnExactRouteBytes", spec := "fnExactRouteBytes", plainKeys := false, apart := false, narrowed := true }
def FnExactRouteBytesUptoSaid : Prop := fnExactRouteBytesUptoRow.holds Try.pinned (OpenSpec.upto fnExactRouteBytesSpec)

/-- 'laws.FnExactKeyOf', WHERE WHAT IT READS IS OF BULK AT MOST 1048576: true; the input reads as it did. -/
def fnExactKeyOfUptoRow : OpenClaim := { program := "ythhodnkcaefnnaa", sum := "612fa1faf8dbfe6202d64c2b635794c0bccb06d5e0fef3dffacdf998fb4b9c9b", func := "loop.example/g00667/laws.FnExactKeyOf", spec := "fnExactKeyOf", plainKeys := false, apart := false, narrowed := true }
def FnExactKeyOfUptoSaid : Prop := fnExactKeyOfUptoRow.holds Try.pinned (OpenSpec.upto fnExactKeyOfSpec)

/-- 'laws.FnExactBetter', WHERE WHAT IT READS IS OF BULK AT MOST 1048576: true; the input reads as it did. -/
def fnExactBetterUptoRow : OpenClaim := { program := "ythhodnkcaefnnaa", sum := "612fa1faf8dbfe6202d64c2b635794c0bccb06d5e0fef3dffacdf998fb4b9c9b", func := "loop.example/g00667/laws.FnExactBetter", spec := "fnExactBetter", plainKeys := false, apart := false, narrowed := true }
def FnExactBetterUptoSaid : Prop := fnExactBetterUptoRow.holds Try.pinned (OpenSpec.upto fnExactBetterSpec)

/-- 'laws.FnExactBestOf', WHERE WHAT IT READS IS OF BULK AT MOST 1048576: true; the input reads as it did. -/
def fnExactBestOfUptoRow : OpenClaim := { program := "ythhodnkcaefnnaa", sum := "612fa1faf8dbfe6202d64c2b635794c0bccb06d5e0fef3dffacdf998fb4b9c9b", func := "loop.example/g00667/laws.FnExactBestOf", spec := "fnExactBestOf", unfollowed := true, recurses := true, plainKeys := false, apart := false, narrowed := true }
def FnExactBestOfUptoSaid : Prop := fnExactBestOfUptoRow.holds Try.pinned (OpenSpec.upto fnExactBestOfSpec)

end Rows
end Go.Proofs.Ythhodnkcaefnnaa
