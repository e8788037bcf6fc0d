/-
  No cell of these rows narrows 'for every input' (looked for: loops, veiled, ifaces, maps, wideKeys, modest, calm, conditions, laid).
  DERIVED. THE GIVEN ROWS OF THIS SEAT. 12 by the template 'for every input the law returns true; each argument reads behind the call as it read before'; 0 by the template 'total and deterministic' (their statements: YthilmonokhdjmaaTotals.lean).
  GIVEN WITH THE SEED: the statements are not yours to turn. If you find one false, say at which input.
  Laid BY PROGRAM, IN A SANDBOX (cutbox-rows.mjs): the forced cells as the released guide's own fill.sh prints them over the translation 8291283d14859298… (all of the seat's roots in one cut). By AI agents, Wed Nov 11 2026. No macro, syntax, notation, axiom, sorry.
-/
import Derived.Test.YthilmonokhdjmaaChecked
import GoSem.Claim
import GoSem.ClaimJoined
import GoSem.ClaimMapViews
import Derived.JoinedTies
import Derived.KernelRfl
namespace Go.Proofs.Ythilmonokhdjmaa
/- THE CELL 'sum', in the pinned program and in every row, IS THE sha256 OF THE DUMP (.gsa) THAT YthilmonokhdjmaaProg.lean LOADS. Nothing in Lean hashes anything: it is a label: what it is worth is what the hold of that sum in a sandbox is worth. -/
noncomputable def Try.pinned : Pinned := { name := "ythilmonokhdjmaa", sum := "8291283d148592980eee3a58fa2821f3b7090a48ceb1abbe36ee52e6855c6c7a", checked := Try.checked }
namespace Rows
def none {H : Type} : Left H := { results := [], args := [] }

/-- 'laws.FnExactWentRight': WHATEVER THE INPUT: true; the input reads as it did. -/
def fnExactWentRightSpec : ChangeSpec := { name := "fnExactWentRight", fn := fun _ => fun
  | [d] => { results := [.lit (.bool true)], args := [d] }
  | _ => none }
def fnExactWentRightRow : OpenClaim := { program := "ythilmonokhdjmaa", sum := "8291283d148592980eee3a58fa2821f3b7090a48ceb1abbe36ee52e6855c6c7a", func := "loop.example/g00667/laws.FnExactWentRight", spec := "fnExactWentRight", plainKeys := false, apart := false }
def FnExactWentRightSaid : Prop := fnExactWentRightRow.holds Try.pinned (OpenSpec.ofChange fnExactWentRightSpec)

/-- ITS FALSE NEIGHBOUR: 'it returns false'. Refute it at one input. -/
def fnExactWentRightWrong : ChangeSpec := { name := "fnExactWentRight", fn := fun _ => fun
  | [d] => { results := [.lit (.bool false)], args := [d] }
  | _ => none }
def FnExactWentRightWrongFalsely : Prop := fnExactWentRightRow.holds Try.pinned (OpenSpec.ofChange fnExactWentRightWrong)

/-- 'laws.FnExactWentPut': WHATEVER THE INPUT: true; the input reads as it did. -/
def fnExactWentPutSpec : ChangeSpec := { name := "fnExactWentPut", fn := fun _ => fun
  | [d1, d2] => { results := [.lit (.bool true)], args := [d1, d2] }
  | _ => none }
def fnExactWentPutRow : OpenClaim := { program := "ythilmonokhdjmaa", sum := "8291283d148592980eee3a58fa2821f3b7090a48ceb1abbe36ee52e6855c6c7a", func := "loop.example/g00667/laws.FnExactWentPut", spec := "fnExactWentPut", unfollowed := true, recurses := true, plainKeys := false, apart := false }
def FnExactWentPutSaid : Prop := fnExactWentPutRow.holds Try.pinned (OpenSpec.ofChange fnExactWentPutSpec)

/-- ITS FALSE NEIGHBOUR: 'it returns false'. Refute it at one input. -/
def fnExactWentPutWrong : ChangeSpec := { name := "fnExactWentPut", fn := fun _ => fun
  | [d1, d2] => { results := [.lit (.bool false)], args := [d1, d2] }
  | _ => none }
def FnExactWentPutWrongFalsely : Prop := fnExactWentPutRow.holds Try.pinned (OpenSpec.ofChange fnExactWentPutWrong)

/-- 'laws.FnExactWentCount': WHATEVER THE INPUT: true; the input reads as it did. -/
def fnExactWentCountSpec : ChangeSpec := { name := "fnExactWentCount", fn := fun _ => fun
  | [d1, d2, d3, d4] => { results := [.lit (.bool true)], args := [d1, d2, d3, d4] }
  | _ => none }
def fnExactWentCountRow : OpenClaim := { program := "ythilmonokhdjmaa", sum := "8291283d148592980eee3a58fa2821f3b7090a48ceb1abbe36ee52e6855c6c7a", func := "loop.example/g00667/laws.FnExactWentCount", spec := "fnExactWentCount", unfollowed := true, recurses := true, plainKeys := false, apart := false }
def FnExactWentCountSaid : Prop := fnExactWentCountRow.holds Try.pinned (OpenSpec.ofChange fnExactWentCountSpec)

/-- ITS FALSE NEIGHBOUR: 'it returns false'. Refute it at one input. -/
def fnExactWentCountWrong : ChangeSpec := { name := "fnExactWentCount", fn := fun _ => fun
  | [d1, d2, d3, d4] => { results := [.lit (.bool false)], args := [d1, d2, d3, d4] }
  | _ => none }
def FnExactWentCountWrongFalsely : Prop := fnExactWentCountRow.holds Try.pinned (OpenSpec.ofChange fnExactWentCountWrong)

/-- 'laws.FnExactWentTrim': WHATEVER THE INPUT: true; the input reads as it did. -/
def fnExactWentTrimSpec : ChangeSpec := { name := "fnExactWentTrim", fn := fun _ => fun
  | [d1, d2] => { results := [.lit (.bool true)], args := [d1, d2] }
  | _ => none }
def fnExactWentTrimRow : OpenClaim := { program := "ythilmonokhdjmaa", sum := "8291283d148592980eee3a58fa2821f3b7090a48ceb1abbe36ee52e6855c6c7a", func := "loop.example/g00667/laws.FnExactWentTrim", spec := "fnExactWentTrim", unfollowed := true, recurses := true, plainKeys := false, apart := false }
def FnExactWentTrimSaid : Prop := fnExactWentTrimRow.holds Try.pinned (OpenSpec.ofChange fnExactWentTrimSpec)

/-- ITS FALSE NEIGHBOUR: 'it returns false'. Refute it at one input. -/
def fnExactWentTrimWrong : ChangeSpec := { name := "fnExactWentTrim", fn := fun _ => fun
  | [d1, d2] => { results := [.lit (.bool false)], args := [d1, d2] }
  | _ => none }
def FnExactWentTrimWrongFalsely : Prop := fnExactWentTrimRow.holds Try.pinned (OpenSpec.ofChange fnExactWentTrimWrong)

/-- 'laws.FnExactWentDrop': WHATEVER THE INPUT: true; the input reads as it did. -/
def fnExactWentDropSpec : ChangeSpec := { name := "fnExactWentDrop", fn := fun _ => fun
  | [d1, d2, d3] => { results := [.lit (.bool true)], args := [d1, d2, d3] }
  | _ => none }
def fnExactWentDropRow : OpenClaim := { program := "ythilmonokhdjmaa", sum := "8291283d148592980eee3a58fa2821f3b7090a48ceb1abbe36ee52e6855c6c7a", func := "loop.example/g00667/laws.FnExactWentDrop", spec := "fnExactWentDrop", unfollowed := true, recurses := true, plainKeys := false, apart := false }
def FnExactWentDropSaid : Prop := fnExactWentDropRow.holds Try.pinned (OpenSpec.ofChange fnExactWentDropSpec)

/-- ITS FALSE NEIGHBOUR: 'it returns false'. Refute it at one input. -/
def fnExactWentDropWrong : ChangeSpec := { name := "fnExactWentDrop", fn := fun _ => fun
  | [d1, d2, d3] => { results := [.lit (.bool false)], args := [d1, d2, d3] }
  | _ => none }
def FnExactWentDropWrongFalsely : Prop := fnExactWentDropRow.holds Try.pinned (OpenSpec.ofChange fnExactWentDropWrong)

/-- 'laws.FnWent': WHATEVER THE INPUT: true; the input reads as it did. -/
def fnWentSpec : ChangeSpec := { name := "fnWent", fn := fun _ => fun
  | [d1, d2] => { results := [.lit (.bool true)], args := [d1, d2] }
  | _ => none }
def fnWentRow : OpenClaim := { program := "ythilmonokhdjmaa", sum := "8291283d148592980eee3a58fa2821f3b7090a48ceb1abbe36ee52e6855c6c7a", func := "loop.example/g00667/laws.FnWent", spec := "fnWent", unfollowed := true, recurses := true, plainKeys := false, apart := false }
def FnWentSaid : Prop := fnWentRow.holds Try.pinned (OpenSpec.ofChange fnWentSpec)

/-- ITS FALSE NEIGHBOUR: 'it returns false'. Refute it at one input. -/
def fnWentWrong : ChangeSpec := { name := "fnWent", fn := fun _ => fun
  | [d1, d2] => { results := [.lit (.bool false)], args := [d1, d2] }
  | _ => none }
def FnWentWrongFalsely : Prop := fnWentRow.holds Try.pinned (OpenSpec.ofChange fnWentWrong)

/-- 'laws.FnGuests': WHATEVER THE INPUT: true; the input reads as it did. -/
def fnGuestsSpec : ChangeSpec := { name := "fnGuests", fn := fun _ => fun
  | [d1, d2] => { results := [.lit (.bool true)], args := [d1, d2] }
  | _ => none }
def fnGuestsRow : OpenClaim := { program := "ythilmonokhdjmaa", sum := "8291283d148592980eee3a58fa2821f3b7090a48ceb1abbe36ee52e6855c6c7a", func := "loop.example/g00667/laws.FnGuests", spec := "fnGuests", unfollowed := true, recurses := true, plainKeys := false, apart := false }
def FnGuestsSaid : Prop := fnGuestsRow.holds Try.pinned (OpenSpec.ofChange fnGuestsSpec)

/-- ITS FALSE NEIGHBOUR: 'it returns false'. Refute it at one input. -/
def fnGuestsWrong : ChangeSpec := { name := "fnGuests", fn := fun _ => fun
  | [d1, d2] => { results := [.lit (.bool false)], args := [d1, d2] }
  | _ => none }
def FnGuestsWrongFalsely : Prop := fnGuestsRow.holds Try.pinned (OpenSpec.ofChange fnGuestsWrong)

/-- 'laws.FnExactRoomsOf': WHATEVER THE INPUT: true; the input reads as it did. -/
def fnExactRoomsOfSpec : ChangeSpec := { name := "fnExactRoomsOf", fn := fun _ => fun
  | [d1, d2, d3] => { results := [.lit (.bool true)], args := [d1, d2, d3] }
  | _ => none }
def fnExactRoomsOfRow : OpenClaim := { program := "ythilmonokhdjmaa", sum := "8291283d148592980eee3a58fa2821f3b7090a48ceb1abbe36ee52e6855c6c7a", func := "loop.example/g00667/laws.FnExactRoomsOf", spec := "fnExactRoomsOf", recurses := true, plainKeys := false, apart := false }
def FnExactRoomsOfSaid : Prop := fnExactRoomsOfRow.holds Try.pinned (OpenSpec.ofChange fnExactRoomsOfSpec)

/-- ITS FALSE NEIGHBOUR: 'it returns false'. Refute it at one input. -/
def fnExactRoomsOfWrong : ChangeSpec := { name := "fnExactRoomsOf", fn := fun _ => fun
  | [d1, d2, d3] => { results := [.lit (.bool false)], args := [d1, d2, d3] }
  | _ => none }
def FnExactRoomsOfWrongFalsely : Prop := fnExactRoomsOfRow.holds Try.pinned (OpenSpec.ofChange fnExactRoomsOfWrong)

/-- 'laws.FnExactGuestsAge': WHATEVER THE INPUT: true; the input reads as it did. -/
def fnExactGuestsAgeSpec : ChangeSpec := { name := "fnExactGuestsAge", fn := fun _ => fun
  | [d1, d2] => { results := [.lit (.bool true)], args := [d1, d2] }
  | _ => none }
def fnExactGuestsAgeRow : OpenClaim := { program := "ythilmonokhdjmaa", sum := "8291283d148592980eee3a58fa2821f3b7090a48ceb1abbe36ee52e6855c6c7a", func := "loop.example/g00667/laws.FnExactGuestsAge", spec := "fnExactGuestsAge", unfollowed := true, recurses := true, plainKeys := false, apart := false }
def FnExactGuestsAgeSaid : Prop := fnExactGuestsAgeRow.holds Try.pinned (OpenSpec.ofChange fnExactGuestsAgeSpec)

/-- ITS FALSE NEIGHBOUR: 'it returns false'. Refute it at one input. -/
def fnExactGuestsAgeWrong : ChangeSpec := { name := "fnExactGuestsAge", fn := fun _ => fun
  | [d1, d2] => { results := [.lit (.bool false)], args := [d1, d2] }
  | _ => none }
def FnExactGuestsAgeWrongFalsely : Prop := fnExactGuestsAgeRow.holds Try.pinned (OpenSpec.ofChange fnExactGuestsAgeWrong)

/-- 'laws.FnExactRibSweep': WHATEVER THE INPUT: true; the input reads as it did. -/
def fnExactRibSweepSpec : ChangeSpec := { name := "fnExactRibSweep", fn := fun _ => fun
  | [d1, d2] => { results := [.lit (.bool true)], args := [d1, d2] }
  | _ => none }
def fnExactRibSweepRow : OpenClaim := { program := "ythilmonokhdjmaa", sum := "8291283d148592980eee3a58fa2821f3b7090a48ceb1abbe36ee52e6855c6c7a", func := "loop.example/g00667/laws.FnExactRibSweep", spec := "fnExactRibSweep", unfollowed := true, recurses := true, plainKeys := false, apart := false }
def FnExactRibSweepSaid : Prop := fnExactRibSweepRow.holds Try.pinned (OpenSpec.ofChange fnExactRibSweepSpec)

/-- ITS FALSE NEIGHBOUR: 'it returns false'. Refute it at one input. -/
def fnExactRibSweepWrong : ChangeSpec := { name := "fnExactRibSweep", fn := fun _ => fun
  | [d1, d2] => { results := [.lit (.bool false)], args := [d1, d2] }
  | _ => none }
def FnExactRibSweepWrongFalsely : Prop := fnExactRibSweepRow.holds Try.pinned (OpenSpec.ofChange fnExactRibSweepWrong)

/-- 'laws.FnExactRibTake': WHATEVER THE INPUT: true; the input reads as it did. -/
def fnExactRibTakeSpec : ChangeSpec := { name := "fnExactRibTake", fn := fun _ => fun
  | [d1, d2, d3] => { results := [.lit (.bool true)], args := [d1, d2, d3] }
  | _ => none }
def fnExactRibTakeRow : OpenClaim := { program := "ythilmonokhdjmaa", sum := "8291283d148592980eee3a58fa2821f3b7090a48ceb1abbe36ee52e6855c6c7a", func := "loop.example/g00667/laws.FnExactRibTake", spec := "fnExactRibTake", unfollowed := true, recurses := true, plainKeys := false, apart := false }
def FnExactRibTakeSaid : Prop := fnExactRibTakeRow.holds Try.pinned (OpenSpec.ofChange fnExactRibTakeSpec)

/-- ITS FALSE NEIGHBOUR: 'it returns false'. Refute it at one input. -/
def fnExactRibTakeWrong : ChangeSpec := { name := "fnExactRibTake", fn := fun _ => fun
  | [d1, d2, d3] => { results := [.lit (.bool false)], args := [d1, d2, d3] }
  | _ => none }
def FnExactRibTakeWrongFalsely : Prop := fnExactRibTakeRow.holds Try.pinned (OpenSpec.ofChange fnExactRibTakeWrong)

/-- 'laws.FnExactRibPut': WHATEVER THE INPUT: true; the input reads as it did. -/
def fnExactRibPutSpec : ChangeSpec := { name := "fnExactRibPut", fn := fun _ => fun
  | [d1, d2, d3] => { results := [.lit (.bool true)], args := [d1, d2, d3] }
  | _ => none }
def fnExactRibPutRow : OpenClaim := { program := "ythilmonokhdjmaa", sum := "8291283d148592980eee3a58fa2821f3b7090a48ceb1abbe36ee52e6855c6c7a", func := "loop.example/g00667/laws.FnExactRibPut", spec := "fnExactRibPut", unfollowed := true, recurses := true, plainKeys := false, apart := false }
def FnExactRibPutSaid : Prop := fnExactRibPutRow.holds Try.pinned (OpenSpec.ofChange fnExactRibPutSpec)

/-- ITS FALSE NEIGHBOUR: 'it returns false'. Refute it at one input. -/
def fnExactRibPutWrong : ChangeSpec := { name := "fnExactRibPut", fn := fun _ => fun
  | [d1, d2, d3] => { results := [.lit (.bool false)], args := [d1, d2, d3] }
  | _ => none }
def FnExactRibPutWrongFalsely : Prop := fnExactRibPutRow.holds Try.pinned (OpenSpec.ofChange fnExactRibPutWrong)

/- THE SECOND FORM. 'bulk': how many values and letters a reading holds, each counted each time it is reached (what is shared counts as often as it is met; a slice's spare places count too). A statement '..UptoSaid' is the law's where the arguments, and the package variables that the reading takes, are together of bulk at most 1048576: NARROWER than '..Said'. Prove '..Said' where nothing that the law and all that it calls make is longer than what came in: it says more and counts as full. Else prove '..UptoSaid'. A law counts once. -/
mutual
def uptoBulk {H : Type} : DataW H → Nat
  | .lit (.string bytes) => bytes.length + 1
  | .lit _ => 1
  | .nil => 1
  | .ptr d => uptoBulk d + 1
  | .slice elems spare => uptoBulkAll elems + uptoBulkAll spare + 1
  | .agg parts => uptoBulkAll parts + 1
  | .iface _ d => uptoBulk d + 1
  | .map entries => uptoBulkEntries entries + 1
  | .held _ => 1
def uptoBulkAll {H : Type} : List (DataW H) → Nat
  | [] => 0
  | d :: r => uptoBulk d + uptoBulkAll r
def uptoBulkEntries {H : Type} : List (Lit × DataW H) → Nat
  | [] => 0
  | x :: r => uptoBulkEntry x + uptoBulkEntries r
def uptoBulkEntry {H : Type} : Lit × DataW H → Nat
  | (.string bytes, d) => bytes.length + uptoBulk d + 1
  | (_, d) => uptoBulk d + 1
 end
def uptoSmall : (H : Type) → List (DataW H) → Bool := fun _ ds => decide (uptoBulkAll ds ≤ 1048576)
def OpenSpec.upto (s : _root_.Go.ChangeSpec) : _root_.Go.OpenSpec := { _root_.Go.OpenSpec.ofChange s with cond := some uptoSmall }

/-- 'laws.FnExactWentRight', WHERE WHAT IT READS IS OF BULK AT MOST 1048576: true; the input reads as it did. -/
def fnExactWentRightUptoRow : OpenClaim := { program := "ythilmonokhdjmaa", sum := "8291283d148592980eee3a58fa2821f3b7090a48ceb1abbe36ee52e6855c6c7a", func := "loop.example/g00667/laws.FnExactWentRight", spec := "fnExactWentRight", plainKeys := false, apart := false, narrowed := true }
def FnExactWentRightUptoSaid : Prop := fnExactWentRightUptoRow.holds Try.pinned (OpenSpec.upto fnExactWentRightSpec)

/-- 'laws.FnExactWentPut', WHERE WHAT IT READS IS OF BULK AT MOST 1048576: true; the input reads as it did. -/
def fnExactWentPutUptoRow : OpenClaim := { program := "ythilmonokhdjmaa", sum := "8291283d148592980eee3a58fa2821f3b7090a48ceb1abbe36ee52e6855c6c7a", func := "loop.example/g00667/laws.FnExactWentPut", spec := "fnExactWentPut", unfollowed := true, recurses := true, plainKeys := false, apart := false, narrowed := true }
def FnExactWentPutUptoSaid : Prop := fnExactWentPutUptoRow.holds Try.pinned (OpenSpec.upto fnExactWentPutSpec)

/-- 'laws.FnExactWentCount', WHERE WHAT IT READS IS OF BULK AT MOST 1048576: true; the input reads as it did. -/
def fnExactWentCountUptoRow : OpenClaim := { program := "ythilmonokhdjmaa", sum := "8291283d148592980eee3a58fa2821f3b7090a48ceb1abbe36ee52e6855c6c7a", func := "loop.example/g00667/laws.FnExactWentCount", spec := "fnExactWentCount", unfollowed := true, recurses := true, plainKeys := false, apart := false, narrowed := true }
def FnExactWentCountUptoSaid : Prop := fnExactWentCountUptoRow.holds Try.pinned (OpenSpec.upto fnExactWentCountSpec)

/-- 'laws.FnExactWentTrim', WHERE WHAT IT READS IS OF BULK AT MOST 1048576: true; the input reads as it did. -/
def fnExactWentTrimUptoRow : OpenClaim := { program := "ythilmonokhdjmaa", sum := "8291283d148592980eee3a58fa2821f3b7090a48ceb1abbe36ee52e6855c6c7a", func := "loop.example/g00667/laws.FnExactWentTrim", spec := "fnExactWentTrim", unfollowed := true, recurses := true, plainKeys := false, apart := false, narrowed := true }
def FnExactWentTrimUptoSaid : Prop := fnExactWentTrimUptoRow.holds Try.pinned (OpenSpec.upto fnExactWentTrimSpec)

/-- 'laws.FnExactWentDrop', WHERE WHAT IT READS IS OF BULK AT MOST 1048576: true; the input reads as it did. -/
def fnExactWentDropUptoRow : OpenClaim := { program := "ythilmonokhdjmaa", sum := "8291283d148592980eee3a58fa2821f3b7090a48ceb1abbe36ee52e6855c6c7a", func := "loop.example/g00667/laws.FnExactWentDrop", spec := "fnExactWentDrop", unfollowed := true, recurses := true, plainKeys := false, apart := false, narrowed := true }
def FnExactWentDropUptoSaid : Prop := fnExactWentDropUptoRow.holds Try.pinned (OpenSpec.upto fnExactWentDropSpec)

/-- 'laws.FnWent', WHERE WHAT IT READS IS OF BULK AT MOST 1048576: true; the input reads as it did. -/
def fnWentUptoRow : OpenClaim := { program := "ythilmonokhdjmaa", sum := "8291283d148592980eee3a58fa2821f3b7090a48ceb1abbe36ee52e6855c6c7a", func := "loop.example/g00667/laws.FnWent", spec := "fnWent", unfollowed := true, recurses := true, plainKeys := false, apart := false, narrowed := true }
def FnWentUptoSaid : Prop := fnWentUptoRow.holds Try.pinned (OpenSpec.upto fnWentSpec)

/-- 'laws.FnGuests', WHERE WHAT IT READS IS OF BULK AT MOST 1048576: true; the input reads as it did. -/
def fnGuestsUptoRow : OpenClaim := { program := "ythilmonokhdjmaa", sum := "8291283d148592980eee3a58fa2821f3b7090a48ceb1abbe36ee52e6855c6c7a", func := "loop.example/g00667/laws.FnGuests", spec := "fnGuests", unfollowed := true, recurses := true, plainKeys := false, apart := false, narrowed := true }
def FnGuestsUptoSaid : Prop := fnGuestsUptoRow.holds Try.pinned (OpenSpec.upto fnGuestsSpec)

/-- 'laws.FnExactRoomsOf', WHERE WHAT IT READS IS OF BULK AT MOST 1048576: true; the input reads as it did. -/
def fnExactRoomsOfUptoRow : OpenClaim := { program := "ythilmonokhdjmaa", sum := "8291283d148592980eee3a58fa2821f3b7090a48ceb1abbe36ee52e6855c6c7a", func := "loop.example/g00667/laws.FnExactRoomsOf", spec := "fnExactRoomsOf", recurses := true, plainKeys := false, apart := false, narrowed := true }
def FnExactRoomsOfUptoSaid : Prop := fnExactRoomsOfUptoRow.holds Try.pinned (OpenSpec.upto fnExactRoomsOfSpec)

/-- 'laws.FnExactGuestsAge', WHERE WHAT IT READS IS OF BULK AT MOST 1048576: true; the input reads as it did. -/
def fnExactGuestsAgeUptoRow : OpenClaim := { program := "ythilmonokhdjmaa", sum := "8291283d148592980eee3a58fa2821f3b7090a48ceb1abbe36ee52e6855c6c7a", func := "loop.example/g00667/laws.FnExactGuestsAge", spec := "fnExactGuestsAge", unfollowed := true, recurses := true, plainKeys := false, apart := false, narrowed := true }
def FnExactGuestsAgeUptoSaid : Prop := fnExactGuestsAgeUptoRow.holds Try.pinned (OpenSpec.upto fnExactGuestsAgeSpec)

/-- 'laws.FnExactRibSweep', WHERE WHAT IT READS IS OF BULK AT MOST 1048576: true; the input reads as it did. -/
def fnExactRibSweepUptoRow : OpenClaim := { program := "ythilmonokhdjmaa", sum := "8291283d148592980eee3a58fa2821f3b7090a48ceb1abbe36ee52e6855c6c7a", func := "loop.example/g00667/laws.FnExactRibSweep", spec := "fnExactRibSweep", unfollowed := true, recurses := true, plainKeys := false, apart := false, narrowed := true }
def FnExactRibSweepUptoSaid : Prop := fnExactRibSweepUptoRow.holds Try.pinned (OpenSpec.upto fnExactRibSweepSpec)

/-- 'laws.FnExactRibTake', WHERE WHAT IT READS IS OF BULK AT MOST 1048576: true; the input reads as it did. -/
def fnExactRibTakeUptoRow : OpenClaim := { program := "ythilmonokhdjmaa", sum := "8291283d148592980eee3a58fa2821f3b7090a48ceb1abbe36ee52e6855c6c7a", func := "loop.example/g00667/laws.FnExactRibTake", spec := "fnExactRibTake", unfollowed := true, recurses := true, plainKeys := false, apart := false, narrowed := true }
def FnExactRibTakeUptoSaid : Prop := fnExactRibTakeUptoRow.holds Try.pinned (OpenSpec.upto fnExactRibTakeSpec)

/-- 'laws.FnExactRibPut', WHERE WHAT IT READS IS OF BULK AT MOST 1048576: true; the input reads as it did. -/
def fnExactRibPutUptoRow : OpenClaim := { program := "ythilmonokhdjmaa", sum := "8291283d148592980eee3a58fa2821f3b7090a48ceb1abbe36ee52e6855c6c7a", func := "loop.example/g00667/laws.FnExactRibPut", spec := "fnExactRibPut", unfollowed := true, recurses := true, plainKeys := false, apart := false, narrowed := true }
def FnExactRibPutUptoSaid : Prop := fnExactRibPutUptoRow.holds Try.pinned (OpenSpec.upto fnExactRibPutSpec)

end Rows
end Go.Proofs.Ythilmonokhdjmaa
