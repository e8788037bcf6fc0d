/-
  No cell of these rows narrows 'for every input' (looked for: loops, veiled, ifaces, maps, wideKeys, modest, calm, conditions, laid).
  DERIVED. THE GIVEN ROWS OF THIS SEAT. 12 by the template 'for every input the law returns true; each argument reads behind the call as it read before'; 0 by the template 'total and deterministic' (their statements: YtmkoppbbenombaaTotals.lean).
  GIVEN WITH THE SEED: the statements are not yours to turn. If you find one false, say at which input.
  Laid BY PROGRAM, IN A SANDBOX (cutbox-rows.mjs): the forced cells as the released guide's own fill.sh prints them over the translation b7f5c671fa0d65a2… (all of the seat's roots in one cut). By AI agents, Wed Nov 11 2026. No macro, syntax, notation, axiom, sorry.
-/
import Derived.Test.YtmkoppbbenombaaChecked
import GoSem.Claim
import GoSem.ClaimJoined
import GoSem.ClaimMapViews
import Derived.JoinedTies
import Derived.KernelRfl
namespace Go.Proofs.Ytmkoppbbenombaa
/- THE CELL 'sum', in the pinned program and in every row, IS THE sha256 OF THE DUMP (.gsa) THAT YtmkoppbbenombaaProg.lean LOADS. Nothing in Lean hashes anything: it is a label: what it is worth is what the hold of that sum in a sandbox is worth. -/
noncomputable def Try.pinned : Pinned := { name := "ytmkoppbbenombaa", sum := "b7f5c671fa0d65a228de8358ca890aad6fc6cc91bf9d5b6ee07b8e7edaf1f82a", checked := Try.checked }
namespace Rows
def none {H : Type} : Left H := { results := [], args := [] }

/-- 'laws.FnExactRibRight': WHATEVER THE INPUT: true; the input reads as it did. -/
def fnExactRibRightSpec : ChangeSpec := { name := "fnExactRibRight", fn := fun _ => fun
  | [d] => { results := [.lit (.bool true)], args := [d] }
  | _ => none }
def fnExactRibRightRow : OpenClaim := { program := "ytmkoppbbenombaa", sum := "b7f5c671fa0d65a228de8358ca890aad6fc6cc91bf9d5b6ee07b8e7edaf1f82a", func := "loop.example/g00667/laws.FnExactRibRight", spec := "fnExactRibRight", unfollowed := true, recurses := true, plainKeys := false, apart := false }
def FnExactRibRightSaid : Prop := fnExactRibRightRow.holds Try.pinned (OpenSpec.ofChange fnExactRibRightSpec)

/-- ITS FALSE NEIGHBOUR: 'it returns false'. Refute it at one input. -/
def fnExactRibRightWrong : ChangeSpec := { name := "fnExactRibRight", fn := fun _ => fun
  | [d] => { results := [.lit (.bool false)], args := [d] }
  | _ => none }
def FnExactRibRightWrongFalsely : Prop := fnExactRibRightRow.holds Try.pinned (OpenSpec.ofChange fnExactRibRightWrong)

/-- 'laws.FnExactRibPut': WHATEVER THE INPUT: true; the input reads as it did. -/
def fnExactRibPutSpec : ChangeSpec := { name := "fnExactRibPut", fn := fun _ => fun
  | [d1, d2, d3] => { results := [.lit (.bool true)], args := [d1, d2, d3] }
  | _ => none }
def fnExactRibPutRow : OpenClaim := { program := "ytmkoppbbenombaa", sum := "b7f5c671fa0d65a228de8358ca890aad6fc6cc91bf9d5b6ee07b8e7edaf1f82a", func := "loop.example/g00667/laws.FnExactRibPut", spec := "fnExactRibPut", unfollowed := true, recurses := true, plainKeys := false, apart := false }
def FnExactRibPutSaid : Prop := fnExactRibPutRow.holds Try.pinned (OpenSpec.ofChange fnExactRibPutSpec)

/-- ITS FALSE NEIGHBOUR: 'it returns false'. Refute it at one input. -/
def fnExactRibPutWrong : ChangeSpec := { name := "fnExactRibPut", fn := fun _ => fun
  | [d1, d2, d3] => { results := [.lit (.bool false)], args := [d1, d2, d3] }
  | _ => none }
def FnExactRibPutWrongFalsely : Prop := fnExactRibPutRow.holds Try.pinned (OpenSpec.ofChange fnExactRibPutWrong)

/-- 'laws.FnExactRibTake': WHATEVER THE INPUT: true; the input reads as it did. -/
def fnExactRibTakeSpec : ChangeSpec := { name := "fnExactRibTake", fn := fun _ => fun
  | [d1, d2, d3] => { results := [.lit (.bool true)], args := [d1, d2, d3] }
  | _ => none }
def fnExactRibTakeRow : OpenClaim := { program := "ytmkoppbbenombaa", sum := "b7f5c671fa0d65a228de8358ca890aad6fc6cc91bf9d5b6ee07b8e7edaf1f82a", func := "loop.example/g00667/laws.FnExactRibTake", spec := "fnExactRibTake", unfollowed := true, recurses := true, plainKeys := false, apart := false }
def FnExactRibTakeSaid : Prop := fnExactRibTakeRow.holds Try.pinned (OpenSpec.ofChange fnExactRibTakeSpec)

/-- ITS FALSE NEIGHBOUR: 'it returns false'. Refute it at one input. -/
def fnExactRibTakeWrong : ChangeSpec := { name := "fnExactRibTake", fn := fun _ => fun
  | [d1, d2, d3] => { results := [.lit (.bool false)], args := [d1, d2, d3] }
  | _ => none }
def FnExactRibTakeWrongFalsely : Prop := fnExactRibTakeRow.holds Try.pinned (OpenSpec.ofChange fnExactRibTakeWrong)

/-- 'laws.FnExactRibStale': WHATEVER THE INPUT: true; the input reads as it did. -/
def fnExactRibStaleSpec : ChangeSpec := { name := "fnExactRibStale", fn := fun _ => fun
  | [d1, d2] => { results := [.lit (.bool true)], args := [d1, d2] }
  | _ => none }
def fnExactRibStaleRow : OpenClaim := { program := "ytmkoppbbenombaa", sum := "b7f5c671fa0d65a228de8358ca890aad6fc6cc91bf9d5b6ee07b8e7edaf1f82a", func := "loop.example/g00667/laws.FnExactRibStale", spec := "fnExactRibStale", unfollowed := true, recurses := true, plainKeys := false, apart := false }
def FnExactRibStaleSaid : Prop := fnExactRibStaleRow.holds Try.pinned (OpenSpec.ofChange fnExactRibStaleSpec)

/-- ITS FALSE NEIGHBOUR: 'it returns false'. Refute it at one input. -/
def fnExactRibStaleWrong : ChangeSpec := { name := "fnExactRibStale", fn := fun _ => fun
  | [d1, d2] => { results := [.lit (.bool false)], args := [d1, d2] }
  | _ => none }
def FnExactRibStaleWrongFalsely : Prop := fnExactRibStaleRow.holds Try.pinned (OpenSpec.ofChange fnExactRibStaleWrong)

/-- 'laws.FnExactRibSweep': WHATEVER THE INPUT: true; the input reads as it did. -/
def fnExactRibSweepSpec : ChangeSpec := { name := "fnExactRibSweep", fn := fun _ => fun
  | [d1, d2] => { results := [.lit (.bool true)], args := [d1, d2] }
  | _ => none }
def fnExactRibSweepRow : OpenClaim := { program := "ytmkoppbbenombaa", sum := "b7f5c671fa0d65a228de8358ca890aad6fc6cc91bf9d5b6ee07b8e7edaf1f82a", func := "loop.example/g00667/laws.FnExactRibSweep", spec := "fnExactRibSweep", unfollowed := true, recurses := true, plainKeys := false, apart := false }
def FnExactRibSweepSaid : Prop := fnExactRibSweepRow.holds Try.pinned (OpenSpec.ofChange fnExactRibSweepSpec)

/-- ITS FALSE NEIGHBOUR: 'it returns false'. Refute it at one input. -/
def fnExactRibSweepWrong : ChangeSpec := { name := "fnExactRibSweep", fn := fun _ => fun
  | [d1, d2] => { results := [.lit (.bool false)], args := [d1, d2] }
  | _ => none }
def FnExactRibSweepWrongFalsely : Prop := fnExactRibSweepRow.holds Try.pinned (OpenSpec.ofChange fnExactRibSweepWrong)

/-- 'laws.FnExactRoutesOf': WHATEVER THE INPUT: true; the input reads as it did. -/
def fnExactRoutesOfSpec : ChangeSpec := { name := "fnExactRoutesOf", fn := fun _ => fun
  | [d] => { results := [.lit (.bool true)], args := [d] }
  | _ => none }
def fnExactRoutesOfRow : OpenClaim := { program := "ytmkoppbbenombaa", sum := "b7f5c671fa0d65a228de8358ca890aad6fc6cc91bf9d5b6ee07b8e7edaf1f82a", func := "loop.example/g00667/laws.FnExactRoutesOf", spec := "fnExactRoutesOf", unfollowed := true, recurses := true, plainKeys := false, apart := false }
def FnExactRoutesOfSaid : Prop := fnExactRoutesOfRow.holds Try.pinned (OpenSpec.ofChange fnExactRoutesOfSpec)

/-- ITS FALSE NEIGHBOUR: 'it returns false'. Refute it at one input. -/
def fnExactRoutesOfWrong : ChangeSpec := { name := "fnExactRoutesOf", fn := fun _ => fun
  | [d] => { results := [.lit (.bool false)], args := [d] }
  | _ => none }
def FnExactRoutesOfWrongFalsely : Prop := fnExactRoutesOfRow.holds Try.pinned (OpenSpec.ofChange fnExactRoutesOfWrong)

/-- 'laws.FnExactRoomsOf': WHATEVER THE INPUT: true; the input reads as it did. -/
def fnExactRoomsOfSpec : ChangeSpec := { name := "fnExactRoomsOf", fn := fun _ => fun
  | [d1, d2, d3] => { results := [.lit (.bool true)], args := [d1, d2, d3] }
  | _ => none }
def fnExactRoomsOfRow : OpenClaim := { program := "ytmkoppbbenombaa", sum := "b7f5c671fa0d65a228de8358ca890aad6fc6cc91bf9d5b6ee07b8e7edaf1f82a", func := "loop.example/g00667/laws.FnExactRoomsOf", spec := "fnExactRoomsOf", unfollowed := true, recurses := true, plainKeys := false, apart := false }
def FnExactRoomsOfSaid : Prop := fnExactRoomsOfRow.holds Try.pinned (OpenSpec.ofChange fnExactRoomsOfSpec)

/-- ITS FALSE NEIGHBOUR: 'it returns false'. Refute it at one input. -/
def fnExactRoomsOfWrong : ChangeSpec := { name := "fnExactRoomsOf", fn := fun _ => fun
  | [d1, d2, d3] => { results := [.lit (.bool false)], args := [d1, d2, d3] }
  | _ => none }
def FnExactRoomsOfWrongFalsely : Prop := fnExactRoomsOfRow.holds Try.pinned (OpenSpec.ofChange fnExactRoomsOfWrong)

/-- 'laws.FnExactGuestsRight': WHATEVER THE INPUT: true; the input reads as it did. -/
def fnExactGuestsRightSpec : ChangeSpec := { name := "fnExactGuestsRight", fn := fun _ => fun
  | [d] => { results := [.lit (.bool true)], args := [d] }
  | _ => none }
def fnExactGuestsRightRow : OpenClaim := { program := "ytmkoppbbenombaa", sum := "b7f5c671fa0d65a228de8358ca890aad6fc6cc91bf9d5b6ee07b8e7edaf1f82a", func := "loop.example/g00667/laws.FnExactGuestsRight", spec := "fnExactGuestsRight", unfollowed := true, recurses := true, plainKeys := false, apart := false }
def FnExactGuestsRightSaid : Prop := fnExactGuestsRightRow.holds Try.pinned (OpenSpec.ofChange fnExactGuestsRightSpec)

/-- ITS FALSE NEIGHBOUR: 'it returns false'. Refute it at one input. -/
def fnExactGuestsRightWrong : ChangeSpec := { name := "fnExactGuestsRight", fn := fun _ => fun
  | [d] => { results := [.lit (.bool false)], args := [d] }
  | _ => none }
def FnExactGuestsRightWrongFalsely : Prop := fnExactGuestsRightRow.holds Try.pinned (OpenSpec.ofChange fnExactGuestsRightWrong)

/-- 'laws.FnExactGuestAt': WHATEVER THE INPUT: true; the input reads as it did. -/
def fnExactGuestAtSpec : ChangeSpec := { name := "fnExactGuestAt", fn := fun _ => fun
  | [d1, d2, d3] => { results := [.lit (.bool true)], args := [d1, d2, d3] }
  | _ => none }
def fnExactGuestAtRow : OpenClaim := { program := "ytmkoppbbenombaa", sum := "b7f5c671fa0d65a228de8358ca890aad6fc6cc91bf9d5b6ee07b8e7edaf1f82a", func := "loop.example/g00667/laws.FnExactGuestAt", spec := "fnExactGuestAt", unfollowed := true, recurses := true, plainKeys := false, apart := false }
def FnExactGuestAtSaid : Prop := fnExactGuestAtRow.holds Try.pinned (OpenSpec.ofChange fnExactGuestAtSpec)

/-- ITS FALSE NEIGHBOUR: 'it returns false'. Refute it at one input. -/
def fnExactGuestAtWrong : ChangeSpec := { name := "fnExactGuestAt", fn := fun _ => fun
  | [d1, d2, d3] => { results := [.lit (.bool false)], args := [d1, d2, d3] }
  | _ => none }
def FnExactGuestAtWrongFalsely : Prop := fnExactGuestAtRow.holds Try.pinned (OpenSpec.ofChange fnExactGuestAtWrong)

/-- 'laws.FnExactGuestPut': WHATEVER THE INPUT: true; the input reads as it did. -/
def fnExactGuestPutSpec : ChangeSpec := { name := "fnExactGuestPut", fn := fun _ => fun
  | [d1, d2] => { results := [.lit (.bool true)], args := [d1, d2] }
  | _ => none }
def fnExactGuestPutRow : OpenClaim := { program := "ytmkoppbbenombaa", sum := "b7f5c671fa0d65a228de8358ca890aad6fc6cc91bf9d5b6ee07b8e7edaf1f82a", func := "loop.example/g00667/laws.FnExactGuestPut", spec := "fnExactGuestPut", unfollowed := true, recurses := true, plainKeys := false, apart := false }
def FnExactGuestPutSaid : Prop := fnExactGuestPutRow.holds Try.pinned (OpenSpec.ofChange fnExactGuestPutSpec)

/-- ITS FALSE NEIGHBOUR: 'it returns false'. Refute it at one input. -/
def fnExactGuestPutWrong : ChangeSpec := { name := "fnExactGuestPut", fn := fun _ => fun
  | [d1, d2] => { results := [.lit (.bool false)], args := [d1, d2] }
  | _ => none }
def FnExactGuestPutWrongFalsely : Prop := fnExactGuestPutRow.holds Try.pinned (OpenSpec.ofChange fnExactGuestPutWrong)

/-- 'laws.FnExactGuestDrop': WHATEVER THE INPUT: true; the input reads as it did. -/
def fnExactGuestDropSpec : ChangeSpec := { name := "fnExactGuestDrop", fn := fun _ => fun
  | [d1, d2, d3] => { results := [.lit (.bool true)], args := [d1, d2, d3] }
  | _ => none }
def fnExactGuestDropRow : OpenClaim := { program := "ytmkoppbbenombaa", sum := "b7f5c671fa0d65a228de8358ca890aad6fc6cc91bf9d5b6ee07b8e7edaf1f82a", func := "loop.example/g00667/laws.FnExactGuestDrop", spec := "fnExactGuestDrop", unfollowed := true, recurses := true, plainKeys := false, apart := false }
def FnExactGuestDropSaid : Prop := fnExactGuestDropRow.holds Try.pinned (OpenSpec.ofChange fnExactGuestDropSpec)

/-- ITS FALSE NEIGHBOUR: 'it returns false'. Refute it at one input. -/
def fnExactGuestDropWrong : ChangeSpec := { name := "fnExactGuestDrop", fn := fun _ => fun
  | [d1, d2, d3] => { results := [.lit (.bool false)], args := [d1, d2, d3] }
  | _ => none }
def FnExactGuestDropWrongFalsely : Prop := fnExactGuestDropRow.holds Try.pinned (OpenSpec.ofChange fnExactGuestDropWrong)

/-- 'laws.FnExactGuestsAge': WHATEVER THE INPUT: true; the input reads as it did. -/
def fnExactGuestsAgeSpec : ChangeSpec := { name := "fnExactGuestsAge", fn := fun _ => fun
  | [d1, d2] => { results := [.lit (.bool true)], args := [d1, d2] }
  | _ => none }
def fnExactGuestsAgeRow : OpenClaim := { program := "ytmkoppbbenombaa", sum := "b7f5c671fa0d65a228de8358ca890aad6fc6cc91bf9d5b6ee07b8e7edaf1f82a", func := "loop.example/g00667/laws.FnExactGuestsAge", spec := "fnExactGuestsAge", unfollowed := true, recurses := true, plainKeys := false, apart := false }
def FnExactGuestsAgeSaid : Prop := fnExactGuestsAgeRow.holds Try.pinned (OpenSpec.ofChange fnExactGuestsAgeSpec)

/-- ITS FALSE NEIGHBOUR: 'it returns false'. Refute it at one input. -/
def fnExactGuestsAgeWrong : ChangeSpec := { name := "fnExactGuestsAge", fn := fun _ => fun
  | [d1, d2] => { results := [.lit (.bool false)], args := [d1, d2] }
  | _ => none }
def FnExactGuestsAgeWrongFalsely : Prop := fnExactGuestsAgeRow.holds Try.pinned (OpenSpec.ofChange fnExactGuestsAgeWrong)

/- THE SECOND FORM. 'bulk': how many values and letters a reading holds, each counted each time it is reached (what is shared counts as often as it is met; a slice's spare places count too). A statement '..UptoSaid' is the law's where the arguments, and the package variables that the reading takes, are together of bulk at most 1048576: NARROWER than '..Said'. Prove '..Said' where nothing that the law and all that it calls make is longer than what came in: it says more and counts as full. Else prove '..UptoSaid'. A law counts once. -/
mutual
def uptoBulk {H : Type} : DataW H → Nat
  | .lit (.string bytes) => bytes.length + 1
  | .lit _ => 1
  | .nil => 1
  | .ptr d => uptoBulk d + 1
  | .slice elems spare => uptoBulkAll elems + uptoBulkAll spare + 1
  | .agg parts => uptoBulkAll parts + 1
  | .iface _ d => uptoBulk d + 1
  | .map entries => uptoBulkEntries entries + 1
  | .held _ => 1
def uptoBulkAll {H : Type} : List (DataW H) → Nat
  | [] => 0
  | d :: r => uptoBulk d + uptoBulkAll r
def uptoBulkEntries {H : Type} : List (Lit × DataW H) → Nat
  | [] => 0
  | x :: r => uptoBulkEntry x + uptoBulkEntries r
def uptoBulkEntry {H : Type} : Lit × DataW H → Nat
  | (.string bytes, d) => bytes.length + uptoBulk d + 1
  | (_, d) => uptoBulk d + 1
 end
def uptoSmall : (H : Type) → List (DataW H) → Bool := fun _ ds => decide (uptoBulkAll ds ≤ 1048576)
def OpenSpec.upto (s : _root_.Go.ChangeSpec) : _root_.Go.OpenSpec := { _root_.Go.OpenSpec.ofChange s with cond := some uptoSmall }

/-- 'laws.FnExactRibRight', WHERE WHAT IT READS IS OF BULK AT MOST 1048576: true; the input reads as it did. -/
def fnExactRibRightUptoRow : OpenClaim := { program := "ytmkoppbbenombaa", sum := "b7f5c671fa0d65a228de8358ca890aad6fc6cc91bf9d5b6ee07b8e7edaf1f82a", func := "loop.example/g00667/laws.FnExactRibRight", spec := "fnExactRibRight", unfollowed := true, recurses := true, plainKeys := false, apart := false, narrowed := true }
def FnExactRibRightUptoSaid : Prop := fnExactRibRightUptoRow.holds Try.pinned (OpenSpec.upto fnExactRibRightSpec)

/-- 'laws.FnExactRibPut', WHERE WHAT IT READS IS OF BULK AT MOST 1048576: true; the input reads as it did. -/
def fnExactRibPutUptoRow : OpenClaim := { program := "ytmkoppbbenombaa", sum := "b7f5c671fa0d65a228de8358ca890aad6fc6cc91bf9d5b6ee07b8e7edaf1f82a", func := "loop.example/g00667/laws.FnExactRibPut", spec := "fnExactRibPut", unfollowed := true, recurses := true, plainKeys := false, apart := false, narrowed := true }
def FnExactRibPutUptoSaid : Prop := fnExactRibPutUptoRow.holds Try.pinned (OpenSpec.upto fnExactRibPutSpec)

/-- 'laws.FnExactRibTake', WHERE WHAT IT READS IS OF BULK AT MOST 1048576: true; the input reads as it did. -/
def fnExactRibTakeUptoRow : OpenClaim := { program := "ytmkoppbbenombaa", sum := "b7f5c671fa0d65a228de8358ca890aad6fc6cc91bf9d5b6ee07b8e7edaf1f82a", func := "loop.example/g00667/laws.FnExactRibTake", spec := "fnExactRibTake", unfollowed := true, recurses := true, plainKeys := false, apart := false, narrowed := true }
def FnExactRibTakeUptoSaid : Prop := fnExactRibTakeUptoRow.holds Try.pinned (OpenSpec.upto fnExactRibTakeSpec)

/-- 'laws.FnExactRibStale', WHERE WHAT IT READS IS OF BULK AT MOST 1048576: true; the input reads as it did. -/
def fnExactRibStaleUptoRow : OpenClaim := { program := "ytmkoppbbenombaa", sum := "b7f5c671fa0d65a228de8358ca890aad6fc6cc91bf9d5b6ee07b8e7edaf1f82a", func := "loop.example/g00667/laws.FnExactRibStale", spec := "fnExactRibStale", unfollowed := true, recurses := true, plainKeys := false, apart := false, narrowed := true }
def FnExactRibStaleUptoSaid : Prop := fnExactRibStaleUptoRow.holds Try.pinned (OpenSpec.upto fnExactRibStaleSpec)

/-- 'laws.FnExactRibSweep', WHERE WHAT IT READS IS OF BULK AT MOST 1048576: true; the input reads as it did. -/
def fnExactRibSweepUptoRow : OpenClaim := { program := "ytmkoppbbenombaa", sum := "b7f5c671fa0d65a228de8358ca890aad6fc6cc91bf9d5b6ee07b8e7edaf1f82a", func := "loop.example/g00667/laws.FnExactRibSweep", spec := "fnExactRibSweep", unfollowed := true, recurses := true, plainKeys := false, apart := false, narrowed := true }
def FnExactRibSweepUptoSaid : Prop := fnExactRibSweepUptoRow.holds Try.pinned (OpenSpec.upto fnExactRibSweepSpec)

/-- 'laws.FnExactRoutesOf', WHERE WHAT IT READS IS OF BULK AT MOST 1048576: true; the input reads as it did. -/
def fnExactRoutesOfUptoRow : OpenClaim := { program := "ytmkoppbbenombaa", sum := "b7f5c671fa0d65a228de8358ca890aad6fc6cc91bf9d5b6ee07b8e7edaf1f82a", func := "loop.example/g00667/laws.FnExactRoutesOf", spec := "fnExactRoutesOf", unfollowed := true, recurses := true, plainKeys := false, apart := false, narrowed := true }
def FnExactRoutesOfUptoSaid : Prop := fnExactRoutesOfUptoRow.holds Try.pinned (OpenSpec.upto fnExactRoutesOfSpec)

/-- 'laws.FnExactRoomsOf', WHERE WHAT IT READS IS OF BULK AT MOST 1048576: true; the input reads as it did. -/
def fnExactRoomsOfUptoRow : OpenClaim := { program := "ytmkoppbbenombaa", sum := "b7f5c671fa0d65a228de8358ca890aad6fc6cc91bf9d5b6ee07b8e7edaf1f82a", func := "loop.example/g00667/laws.FnExactRoomsOf", spec := "fnExactRoomsOf", unfollowed := true, recurses := true, plainKeys := false, apart := false, narrowed := true }
def FnExactRoomsOfUptoSaid : Prop := fnExactRoomsOfUptoRow.holds Try.pinned (OpenSpec.upto fnExactRoomsOfSpec)

/-- 'laws.FnExactGuestsRight', WHERE WHAT IT READS IS OF BULK AT MOST 1048576: true; the input reads as it did. -/
def fnExactGuestsRightUptoRow : OpenClaim := { program := "ytmkoppbbenombaa", sum := "b7f5c671fa0d65a228de8358ca890aad6fc6cc91bf9d5b6ee07b8e7edaf1f82a", func := "loop.example/g00667/laws.FnExactGuestsRight", spec := "fnExactGuestsRight", unfollowed := true, recurses := true, plainKeys := false, apart := false, narrowed := true }
def FnExactGuestsRightUptoSaid : Prop := fnExactGuestsRightUptoRow.holds Try.pinned (OpenSpec.upto fnExactGuestsRightSpec)

/-- 'laws.FnExactGuestAt', WHERE WHAT IT READS IS OF BULK AT MOST 1048576: true; the input reads as it did. -/
def fnExactGuestAtUptoRow : OpenClaim := { program := "ytmkoppbbenombaa", sum := "b7f5c671fa0d65a228de8358ca890aad6fc6cc91bf9d5b6ee07b8e7edaf1f82a", func := "loop.example/g00667/laws.FnExactGuestAt", spec := "fnExactGuestAt", unfollowed := true, recurses := true, plainKeys := false, apart := false, narrowed := true }
def FnExactGuestAtUptoSaid : Prop := fnExactGuestAtUptoRow.holds Try.pinned (OpenSpec.upto fnExactGuestAtSpec)

/-- 'laws.FnExactGuestPut', WHERE WHAT IT READS IS OF BULK AT MOST 1048576: true; the input reads as it did. -/
def fnExactGuestPutUptoRow : OpenClaim := { program := "ytmkoppbbenombaa", sum := "b7f5c671fa0d65a228de8358ca890aad6fc6cc91bf9d5b6ee07b8e7edaf1f82a", func := "loop.example/g00667/laws.FnExactGuestPut", spec := "fnExactGuestPut", unfollowed := true, recurses := true, plainKeys := false, apart := false, narrowed := true }
def FnExactGuestPutUptoSaid : Prop := fnExactGuestPutUptoRow.holds Try.pinned (OpenSpec.upto fnExactGuestPutSpec)

/-- 'laws.FnExactGuestDrop', WHERE WHAT IT READS IS OF BULK AT MOST 1048576: true; the input reads as it did. -/
def fnExactGuestDropUptoRow : OpenClaim := { program := "ytmkoppbbenombaa", sum := "b7f5c671fa0d65a228de8358ca890aad6fc6cc91bf9d5b6ee07b8e7edaf1f82a", func := "loop.example/g00667/laws.FnExactGuestDrop", spec := "fnExactGuestDrop", unfollowed := true, recurses := true, plainKeys := false, apart := false, narrowed := true }
def FnExactGuestDropUptoSaid : Prop := fnExactGuestDropUptoRow.holds Try.pinned (OpenSpec.upto fnExactGuestDropSpec)

/-- 'laws.FnExactGuestsAge', WHERE WHAT IT READS IS OF BULK AT MOST 1048576: true; the input reads as it did. -/
def fnExactGuestsAgeUptoRow : OpenClaim := { program := "ytmkoppbbenombaa", sum := "b7f5c671fa0d65a228de8358ca890aad6fc6cc91bf9d5b6ee07b8e7edaf1f82a", func := "loop.example/g00667/laws.FnExactGuestsAge", spec := "fnExactGuestsAge", unfollowed := true, recurses := true, plainKeys := false, apart := false, narrowed := true }
def FnExactGuestsAgeUptoSaid : Prop := fnExactGuestsAgeUptoRow.holds Try.pinned (OpenSpec.upto fnExactGuestsAgeSpec)

end Rows
end Go.Proofs.Ytmkoppbbenombaa
