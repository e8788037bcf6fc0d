/-
  No cell of these rows narrows 'for every input' (looked for: loops, veiled, ifaces, maps, wideKeys, modest, calm, conditions, laid).
  DERIVED. THE GIVEN ROWS OF THIS SEAT. 6 by the template 'for every input the law returns true; each argument reads behind the call as it read before'; 0 by the template 'total and deterministic' (their statements: YthdldanfmdnlfaaTotals.lean).
  GIVEN WITH THE SEED: the statements are not yours to turn. If you find one false, say at which input.
  Laid BY PROGRAM, IN A SANDBOX (cutbox-rows.mjs): the forced cells as the released guide's own fill.sh prints them over the translation 555ebe2b5c733aa0… (all of the seat's roots in one cut). By AI agents, Wed Nov 11 2026. No macro, syntax, notation, axiom, sorry.
-/
import Derived.Test.YthdldanfmdnlfaaChecked
import GoSem.Claim
import GoSem.ClaimJoined
import GoSem.ClaimMapViews
import Derived.JoinedTies
import Derived.KernelRfl
namespace Go.Proofs.Ythdldanfmdnlfaa
/- THE CELL 'sum', in the pinned program and in every row, IS THE sha256 OF THE DUMP (.gsa) THAT YthdldanfmdnlfaaProg.lean LOADS. Nothing in Lean hashes anything: it is a label: what it is worth is what the hold of that sum in a sandbox is worth. -/
noncomputable def Try.pinned : Pinned := { name := "ythdldanfmdnlfaa", sum := "555ebe2b5c733aa0d51b81ef044b982095b3e579a90b868ae9d7c414d94d61c8", checked := Try.checked }
namespace Rows
def none {H : Type} : Left H := { results := [], args := [] }

/-- 'laws.FnExactGuestsRight': WHATEVER THE INPUT: true; the input reads as it did. -/
def fnExactGuestsRightSpec : ChangeSpec := { name := "fnExactGuestsRight", fn := fun _ => fun
  | [d] => { results := [.lit (.bool true)], args := [d] }
  | _ => none }
def fnExactGuestsRightRow : OpenClaim := { program := "ythdldanfmdnlfaa", sum := "555ebe2b5c733aa0d51b81ef044b982095b3e579a90b868ae9d7c414d94d61c8", func := "loop.example/g00667/laws.FnExactGuestsRight", spec := "fnExactGuestsRight", plainKeys := false, apart := false }
def FnExactGuestsRightSaid : Prop := fnExactGuestsRightRow.holds Try.pinned (OpenSpec.ofChange fnExactGuestsRightSpec)

/-- ITS FALSE NEIGHBOUR: 'it returns false'. Refute it at one input. -/
def fnExactGuestsRightWrong : ChangeSpec := { name := "fnExactGuestsRight", fn := fun _ => fun
  | [d] => { results := [.lit (.bool false)], args := [d] }
  | _ => none }
def FnExactGuestsRightWrongFalsely : Prop := fnExactGuestsRightRow.holds Try.pinned (OpenSpec.ofChange fnExactGuestsRightWrong)

/-- 'laws.FnExactGuestAt': WHATEVER THE INPUT: true; the input reads as it did. -/
def fnExactGuestAtSpec : ChangeSpec := { name := "fnExactGuestAt", fn := fun _ => fun
  | [d1, d2, d3] => { results := [.lit (.bool true)], args := [d1, d2, d3] }
  | _ => none }
def fnExactGuestAtRow : OpenClaim := { program := "ythdldanfmdnlfaa", sum := "555ebe2b5c733aa0d51b81ef044b982095b3e579a90b868ae9d7c414d94d61c8", func := "loop.example/g00667/laws.FnExactGuestAt", spec := "fnExactGuestAt", plainKeys := false, apart := false }
def FnExactGuestAtSaid : Prop := fnExactGuestAtRow.holds Try.pinned (OpenSpec.ofChange fnExactGuestAtSpec)

/-- ITS FALSE NEIGHBOUR: 'it returns false'. Refute it at one input. -/
def fnExactGuestAtWrong : ChangeSpec := { name := "fnExactGuestAt", fn := fun _ => fun
  | [d1, d2, d3] => { results := [.lit (.bool false)], args := [d1, d2, d3] }
  | _ => none }
def FnExactGuestAtWrongFalsely : Prop := fnExactGuestAtRow.holds Try.pinned (OpenSpec.ofChange fnExactGuestAtWrong)

/-- 'laws.FnExactGuestPut': WHATEVER THE INPUT: true; the input reads as it did. -/
def fnExactGuestPutSpec : ChangeSpec := { name := "fnExactGuestPut", fn := fun _ => fun
  | [d1, d2] => { results := [.lit (.bool true)], args := [d1, d2] }
  | _ => none }
def fnExactGuestPutRow : OpenClaim := { program := "ythdldanfmdnlfaa", sum := "555ebe2b5c733aa0d51b81ef044b982095b3e579a90b868ae9d7c414d94d61c8", func := "loop.example/g00667/laws.FnExactGuestPut", spec := "fnExactGuestPut", unfollowed := true, recurses := true, plainKeys := false, apart := false }
def FnExactGuestPutSaid : Prop := fnExactGuestPutRow.holds Try.pinned (OpenSpec.ofChange fnExactGuestPutSpec)

/-- ITS FALSE NEIGHBOUR: 'it returns false'. Refute it at one input. -/
def fnExactGuestPutWrong : ChangeSpec := { name := "fnExactGuestPut", fn := fun _ => fun
  | [d1, d2] => { results := [.lit (.bool false)], args := [d1, d2] }
  | _ => none }
def FnExactGuestPutWrongFalsely : Prop := fnExactGuestPutRow.holds Try.pinned (OpenSpec.ofChange fnExactGuestPutWrong)

/-- 'laws.FnExactGuestDrop': WHATEVER THE INPUT: true; the input reads as it did. -/
def fnExactGuestDropSpec : ChangeSpec := { name := "fnExactGuestDrop", fn := fun _ => fun
  | [d1, d2, d3] => { results := [.lit (.bool true)], args := [d1, d2, d3] }
  | _ => none }
def fnExactGuestDropRow : OpenClaim := { program := "ythdldanfmdnlfaa", sum := "555ebe2b5c733aa0d51b81ef044b982095b3e579a90b868ae9d7c414d94d61c8", func := "loop.example/g00667/laws.FnExactGuestDrop", spec := "fnExactGuestDrop", unfollowed := true, recurses := true, plainKeys := false, apart := false }
def FnExactGuestDropSaid : Prop := fnExactGuestDropRow.holds Try.pinned (OpenSpec.ofChange fnExactGuestDropSpec)

/-- ITS FALSE NEIGHBOUR: 'it returns false'. Refute it at one input. -/
def fnExactGuestDropWrong : ChangeSpec := { name := "fnExactGuestDrop", fn := fun _ => fun
  | [d1, d2, d3] => { results := [.lit (.bool false)], args := [d1, d2, d3] }
  | _ => none }
def FnExactGuestDropWrongFalsely : Prop := fnExactGuestDropRow.holds Try.pinned (OpenSpec.ofChange fnExactGuestDropWrong)

/-- 'laws.FnExactGuestsAge': WHATEVER THE INPUT: true; the input reads as it did. -/
def fnExactGuestsAgeSpec : ChangeSpec := { name := "fnExactGuestsAge", fn := fun _ => fun
  | [d1, d2] => { results := [.lit (.bool true)], args := [d1, d2] }
  | _ => none }
def fnExactGuestsAgeRow : OpenClaim := { program := "ythdldanfmdnlfaa", sum := "555ebe2b5c733aa0d51b81ef044b982095b3e579a90b868ae9d7c414d94d61c8", func := "loop.example/g00667/laws.FnExactGuestsAge", spec := "fnExactGuestsAge", unfollowed := true, recurses := true, plainKeys := false, apart := false }
def FnExactGuestsAgeSaid : Prop := fnExactGuestsAgeRow.holds Try.pinned (OpenSpec.ofChange fnExactGuestsAgeSpec)

/-- ITS FALSE NEIGHBOUR: 'it returns false'. Refute it at one input. -/
def fnExactGuestsAgeWrong : ChangeSpec := { name := "fnExactGuestsAge", fn := fun _ => fun
  | [d1, d2] => { results := [.lit (.bool false)], args := [d1, d2] }
  | _ => none }
def FnExactGuestsAgeWrongFalsely : Prop := fnExactGuestsAgeRow.holds Try.pinned (OpenSpec.ofChange fnExactGuestsAgeWrong)

/-- 'laws.FnExactRouteOf': WHATEVER THE INPUT: true; the input reads as it did. -/
def fnExactRouteOfSpec : ChangeSpec := { name := "fnExactRouteOf", fn := fun _ => fun
  | [d1, d2] => { results := [.lit (.bool true)], args := [d1, d2] }
  | _ => none }
def fnExactRouteOfRow : OpenClaim := { program := "ythdldanfmdnlfaa", sum := "555ebe2b5c733aa0d51b81ef044b982095b3e579a90b868ae9d7c414d94d61c8", func := "loop.example/g00667/laws.FnExactRouteOf", spec := "fnExactRouteOf", plainKeys := false, apart := false }
def FnExactRouteOfSaid : Prop := fnExactRouteOfRow.holds Try.pinned (OpenSpec.ofChange fnExactRouteOfSpec)

/-- ITS FALSE NEIGHBOUR: 'it returns false'. Refute it at one input. -/
def fnExactRouteOfWrong : ChangeSpec := { name := "fnExactRouteOf", fn := fun _ => fun
  | [d1, d2] => { results := [.lit (.bool false)], args := [d1, d2] }
  | _ => none }
def FnExactRouteOfWrongFalsely : Prop := fnExactRouteOfRow.holds Try.pinned (OpenSpec.ofChange fnExactRouteOfWrong)

/- THE SECOND FORM. 'bulk': how many values and letters a reading holds, each counted each time it is reached (what is shared counts as often as it is met; a slice's spare places count too). A statement '..UptoSaid' is the law's where the arguments, and the package variables that the reading takes, are together of bulk at most 1048576: NARROWER than '..Said'. Prove '..Said' where nothing that the law and all that it calls make is longer than what came in: it says more and counts as full. Else prove '..UptoSaid'. A law counts once. -/
mutual
def uptoBulk {H : Type} : DataW H → Nat
  | .lit (.string bytes) => bytes.length + 1
  | .lit _ => 1
  | .nil => 1
  | .ptr d => uptoBulk d + 1
  | .slice elems spare => uptoBulkAll elems + uptoBulkAll spare + 1
  | .agg parts => uptoBulkAll parts + 1
  | .iface _ d => uptoBulk d + 1
  | .map entries => uptoBulkEntries entries + 1
  | .held _ => 1
def uptoBulkAll {H : Type} : List (DataW H) → Nat
  | [] => 0
  | d :: r => uptoBulk d + uptoBulkAll r
def uptoBulkEntries {H : Type} : List (Lit × DataW H) → Nat
  | [] => 0
  | x :: r => uptoBulkEntry x + uptoBulkEntries r
def uptoBulkEntry {H : Type} : Lit × DataW H → Nat
  | (.string bytes, d) => bytes.length + uptoBulk d + 1
  | (_, d) => uptoBulk d + 1
 end
def uptoSmall : (H : Type) → List (DataW H) → Bool := fun _ ds => decide (uptoBulkAll ds ≤ 1048576)
def OpenSpec.upto (s : _root_.Go.ChangeSpec) : _root_.Go.OpenSpec := { _root_.Go.OpenSpec.ofChange s with cond := some uptoSmall }

/-- 'laws.FnExactGuestsRight', WHERE WHAT IT READS IS OF BULK AT MOST 1048576: true; the input reads as it did. -/
def fnExactGuestsRightUptoRow : OpenClaim := { program := "ythdldanfmdnlfaa", sum := "555ebe2b5c733aa0d51b81ef044b982095b3e579a90b868ae9d7c414d94d61c8", func := "loop.example/g00667/laws.FnExactGuestsRight", spec := "fnExactGuestsRight", plainKeys := false, apart := false, narrowed := true }
def FnExactGuestsRightUptoSaid : Prop := fnExactGuestsRightUptoRow.holds Try.pinned (OpenSpec.upto fnExactGuestsRightSpec)

/-- 'laws.FnExactGuestAt', WHERE WHAT IT READS IS OF BULK AT MOST 1048576: true; the input reads as it did. -/
def fnExactGuestAtUptoRow : OpenClaim := { program := "ythdldanfmdnlfaa", sum := "555ebe2b5c733aa0d51b81ef044b982095b3e579a90b868ae9d7c414d94d61c8", func := "loop.example/g00667/laws.FnExactGuestAt", spec := "fnExactGuestAt", plainKeys := false, apart := false, narrowed := true }
def FnExactGuestAtUptoSaid : Prop := fnExactGuestAtUptoRow.holds Try.pinned (OpenSpec.upto fnExactGuestAtSpec)

/-- 'laws.FnExactGuestPut', WHERE WHAT IT READS IS OF BULK AT MOST 1048576: true; the input reads as it did. -/
def fnExactGuestPutUptoRow : OpenClaim := { program := "ythdldanfmdnlfaa", sum := "555ebe2b5c733aa0d51b81ef044b982095b3e579a90b868ae9d7c414d94d61c8", func := "loop.example/g00667/laws.FnExactGuestPut", spec := "fnExactGuestPut", unfollowed := true, recurses := true, plainKeys := false, apart := false, narrowed := true }
def FnExactGuestPutUptoSaid : Prop := fnExactGuestPutUptoRow.holds Try.pinned (OpenSpec.upto fnExactGuestPutSpec)

/-- 'laws.FnExactGuestDrop', WHERE WHAT IT READS IS OF BULK AT MOST 1048576: true; the input reads as it did. -/
def fnExactGuestDropUptoRow : OpenClaim := { program := "ythdldanfmdnlfaa", sum := "555ebe2b5c733aa0d51b81ef044b982095b3e579a90b868ae9d7c414d94d61c8", func := "loop.example/g00667/laws.FnExactGuestDrop", spec := "fnExactGuestDrop", unfollowed := true, recurses := true, plainKeys := false, apart := false, narrowed := true }
def FnExactGuestDropUptoSaid : Prop := fnExactGuestDropUptoRow.holds Try.pinned (OpenSpec.upto fnExactGuestDropSpec)

/-- 'laws.FnExactGuestsAge', WHERE WHAT IT READS IS OF BULK AT MOST 1048576: true; the input reads as it did. -/
def fnExactGuestsAgeUptoRow : OpenClaim := { program := "ythdldanfmdnlfaa", sum := "555ebe2b5c733aa0d51b81ef044b982095b3e579a90b868ae9d7c414d94d61c8", func := "loop.example/g00667/laws.FnExactGuestsAge", spec := "fnExactGuestsAge", unfollowed := true, recurses := true, plainKeys := false, apart := false, narrowed := true }
def FnExactGuestsAgeUptoSaid : Prop := fnExactGuestsAgeUptoRow.holds Try.pinned (OpenSpec.upto fnExactGuestsAgeSpec)

/-- 'laws.FnExactRouteOf', WHERE WHAT IT READS IS OF BULK AT MOST 1048576: true; the input reads as it did. -/
def fnExactRouteOfUptoRow : OpenClaim := { program := "ythdldanfmdnlfaa", sum := "555ebe2b5c733aa0d51b81ef044b982095b3e579a90b868ae9d7c414d94d61c8", func := "loop.example/g00667/laws.FnExactRouteOf", spec := "fnExactRouteOf", plainKeys := false, apart := false, narrowed := true }
def FnExactRouteOfUptoSaid : Prop := fnExactRouteOfUptoRow.holds Try.pinned (OpenSpec.upto fnExactRouteOfSpec)

end Rows
end Go.Proofs.Ythdldanfmdnlfaa
