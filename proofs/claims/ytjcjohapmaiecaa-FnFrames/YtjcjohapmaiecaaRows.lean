/-
  No cell of these rows narrows 'for every input' (looked for: loops, veiled, ifaces, maps, wideKeys, modest, calm, conditions, laid).
  DERIVED. THE GIVEN ROWS OF THIS SEAT. 8 by the template 'for every input the law returns true; each argument reads behind the call as it read before'; 0 by the template 'total and deterministic' (their statements: YtjcjohapmaiecaaTotals.lean).
  GIVEN WITH THE SEED: the statements are not yours to turn. If you find one false, say at which input.
  Laid BY PROGRAM, IN A SANDBOX (cutbox-rows.mjs): the forced cells as the released guide's own fill.sh prints them over the translation 3d5868a9d3c19099… (all of the seat's roots in one cut). By AI agents, Wed Nov 11 2026. No macro, syntax, notation, axiom, sorry.
-/
import Derived.Test.YtjcjohapmaiecaaChecked
import GoSem.Claim
import GoSem.ClaimJoined
import GoSem.ClaimMapViews
import Derived.JoinedTies
import Derived.KernelRfl
namespace Go.Proofs.Ytjcjohapmaiecaa
/- THE CELL 'sum', in the pinned program and in every row, IS THE sha256 OF THE DUMP (.gsa) THAT YtjcjohapmaiecaaProg.lean LOADS. Nothing in Lean hashes anything: it is a label: what it is worth is what the hold of that sum in a sandbox is worth. -/
noncomputable def Try.pinned : Pinned := { name := "ytjcjohapmaiecaa", sum := "3d5868a9d3c19099e740cc36bfef8a5ffa351a89883cfbfd508ab461222084d9", checked := Try.checked }
namespace Rows
def none {H : Type} : Left H := { results := [], args := [] }

/-- 'laws.FnFrames': WHATEVER THE INPUT: true; the input reads as it did. -/
def fnFramesSpec : ChangeSpec := { name := "fnFrames", fn := fun _ => fun
  | [d1, d2] => { results := [.lit (.bool true)], args := [d1, d2] }
  | _ => none }
def fnFramesRow : OpenClaim := { program := "ytjcjohapmaiecaa", sum := "3d5868a9d3c19099e740cc36bfef8a5ffa351a89883cfbfd508ab461222084d9", func := "loop.example/g00667/laws.FnFrames", spec := "fnFrames", apart := false }
def FnFramesSaid : Prop := fnFramesRow.holds Try.pinned (OpenSpec.ofChange fnFramesSpec)

/-- ITS FALSE NEIGHBOUR: 'it returns false'. Refute it at one input. -/
def fnFramesWrong : ChangeSpec := { name := "fnFrames", fn := fun _ => fun
  | [d1, d2] => { results := [.lit (.bool false)], args := [d1, d2] }
  | _ => none }
def FnFramesWrongFalsely : Prop := fnFramesRow.holds Try.pinned (OpenSpec.ofChange fnFramesWrong)

/-- 'laws.FnExactIsGroup': WHATEVER THE INPUT: true; the input reads as it did. -/
def fnExactIsGroupSpec : ChangeSpec := { name := "fnExactIsGroup", fn := fun _ => fun
  | [d] => { results := [.lit (.bool true)], args := [d] }
  | _ => none }
def fnExactIsGroupRow : OpenClaim := { program := "ytjcjohapmaiecaa", sum := "3d5868a9d3c19099e740cc36bfef8a5ffa351a89883cfbfd508ab461222084d9", func := "loop.example/g00667/laws.FnExactIsGroup", spec := "fnExactIsGroup", apart := false }
def FnExactIsGroupSaid : Prop := fnExactIsGroupRow.holds Try.pinned (OpenSpec.ofChange fnExactIsGroupSpec)

/-- ITS FALSE NEIGHBOUR: 'it returns false'. Refute it at one input. -/
def fnExactIsGroupWrong : ChangeSpec := { name := "fnExactIsGroup", fn := fun _ => fun
  | [d] => { results := [.lit (.bool false)], args := [d] }
  | _ => none }
def FnExactIsGroupWrongFalsely : Prop := fnExactIsGroupRow.holds Try.pinned (OpenSpec.ofChange fnExactIsGroupWrong)

/-- 'laws.FnExactEthBytes': WHATEVER THE INPUT: true; the input reads as it did. -/
def fnExactEthBytesSpec : ChangeSpec := { name := "fnExactEthBytes", fn := fun _ => fun
  | [d] => { results := [.lit (.bool true)], args := [d] }
  | _ => none }
def fnExactEthBytesRow : OpenClaim := { program := "ytjcjohapmaiecaa", sum := "3d5868a9d3c19099e740cc36bfef8a5ffa351a89883cfbfd508ab461222084d9", func := "loop.example/g00667/laws.FnExactEthBytes", spec := "fnExactEthBytes", apart := false }
def FnExactEthBytesSaid : Prop := fnExactEthBytesRow.holds Try.pinned (OpenSpec.ofChange fnExactEthBytesSpec)

/-- ITS FALSE NEIGHBOUR: 'it returns false'. Refute it at one input. -/
def fnExactEthBytesWrong : ChangeSpec := { name := "fnExactEthBytes", fn := fun _ => fun
  | [d] => { results := [.lit (.bool false)], args := [d] }
  | _ => none }
def FnExactEthBytesWrongFalsely : Prop := fnExactEthBytesRow.holds Try.pinned (OpenSpec.ofChange fnExactEthBytesWrong)

/-- 'laws.FnExactEthRead': WHATEVER THE INPUT: true; the input reads as it did. -/
def fnExactEthReadSpec : ChangeSpec := { name := "fnExactEthRead", fn := fun _ => fun
  | [d] => { results := [.lit (.bool true)], args := [d] }
  | _ => none }
def fnExactEthReadRow : OpenClaim := { program := "ytjcjohapmaiecaa", sum := "3d5868a9d3c19099e740cc36bfef8a5ffa351a89883cfbfd508ab461222084d9", func := "loop.example/g00667/laws.FnExactEthRead", spec := "fnExactEthRead", apart := false }
def FnExactEthReadSaid : Prop := fnExactEthReadRow.holds Try.pinned (OpenSpec.ofChange fnExactEthReadSpec)

/-- ITS FALSE NEIGHBOUR: 'it returns false'. Refute it at one input. -/
def fnExactEthReadWrong : ChangeSpec := { name := "fnExactEthRead", fn := fun _ => fun
  | [d] => { results := [.lit (.bool false)], args := [d] }
  | _ => none }
def FnExactEthReadWrongFalsely : Prop := fnExactEthReadRow.holds Try.pinned (OpenSpec.ofChange fnExactEthReadWrong)

/-- 'laws.FnExactArpBytes': WHATEVER THE INPUT: true; the input reads as it did. -/
def fnExactArpBytesSpec : ChangeSpec := { name := "fnExactArpBytes", fn := fun _ => fun
  | [d] => { results := [.lit (.bool true)], args := [d] }
  | _ => none }
def fnExactArpBytesRow : OpenClaim := { program := "ytjcjohapmaiecaa", sum := "3d5868a9d3c19099e740cc36bfef8a5ffa351a89883cfbfd508ab461222084d9", func := "loop.example/g00667/laws.FnExactArpBytes", spec := "fnExactArpBytes", apart := false }
def FnExactArpBytesSaid : Prop := fnExactArpBytesRow.holds Try.pinned (OpenSpec.ofChange fnExactArpBytesSpec)

/-- ITS FALSE NEIGHBOUR: 'it returns false'. Refute it at one input. -/
def fnExactArpBytesWrong : ChangeSpec := { name := "fnExactArpBytes", fn := fun _ => fun
  | [d] => { results := [.lit (.bool false)], args := [d] }
  | _ => none }
def FnExactArpBytesWrongFalsely : Prop := fnExactArpBytesRow.holds Try.pinned (OpenSpec.ofChange fnExactArpBytesWrong)

/-- 'laws.FnExactArpRead': WHATEVER THE INPUT: true; the input reads as it did. -/
def fnExactArpReadSpec : ChangeSpec := { name := "fnExactArpRead", fn := fun _ => fun
  | [d] => { results := [.lit (.bool true)], args := [d] }
  | _ => none }
def fnExactArpReadRow : OpenClaim := { program := "ytjcjohapmaiecaa", sum := "3d5868a9d3c19099e740cc36bfef8a5ffa351a89883cfbfd508ab461222084d9", func := "loop.example/g00667/laws.FnExactArpRead", spec := "fnExactArpRead", apart := false }
def FnExactArpReadSaid : Prop := fnExactArpReadRow.holds Try.pinned (OpenSpec.ofChange fnExactArpReadSpec)

/-- ITS FALSE NEIGHBOUR: 'it returns false'. Refute it at one input. -/
def fnExactArpReadWrong : ChangeSpec := { name := "fnExactArpRead", fn := fun _ => fun
  | [d] => { results := [.lit (.bool false)], args := [d] }
  | _ => none }
def FnExactArpReadWrongFalsely : Prop := fnExactArpReadRow.holds Try.pinned (OpenSpec.ofChange fnExactArpReadWrong)

/-- 'laws.FnExactVxBytes': WHATEVER THE INPUT: true; the input reads as it did. -/
def fnExactVxBytesSpec : ChangeSpec := { name := "fnExactVxBytes", fn := fun _ => fun
  | [d1, d2] => { results := [.lit (.bool true)], args := [d1, d2] }
  | _ => none }
def fnExactVxBytesRow : OpenClaim := { program := "ytjcjohapmaiecaa", sum := "3d5868a9d3c19099e740cc36bfef8a5ffa351a89883cfbfd508ab461222084d9", func := "loop.example/g00667/laws.FnExactVxBytes", spec := "fnExactVxBytes", apart := false }
def FnExactVxBytesSaid : Prop := fnExactVxBytesRow.holds Try.pinned (OpenSpec.ofChange fnExactVxBytesSpec)

/-- ITS FALSE NEIGHBOUR: 'it returns false'. Refute it at one input. -/
def fnExactVxBytesWrong : ChangeSpec := { name := "fnExactVxBytes", fn := fun _ => fun
  | [d1, d2] => { results := [.lit (.bool false)], args := [d1, d2] }
  | _ => none }
def FnExactVxBytesWrongFalsely : Prop := fnExactVxBytesRow.holds Try.pinned (OpenSpec.ofChange fnExactVxBytesWrong)

/-- 'laws.FnExactVxRead': WHATEVER THE INPUT: true; the input reads as it did. -/
def fnExactVxReadSpec : ChangeSpec := { name := "fnExactVxRead", fn := fun _ => fun
  | [d] => { results := [.lit (.bool true)], args := [d] }
  | _ => none }
def fnExactVxReadRow : OpenClaim := { program := "ytjcjohapmaiecaa", sum := "3d5868a9d3c19099e740cc36bfef8a5ffa351a89883cfbfd508ab461222084d9", func := "loop.example/g00667/laws.FnExactVxRead", spec := "fnExactVxRead", apart := false }
def FnExactVxReadSaid : Prop := fnExactVxReadRow.holds Try.pinned (OpenSpec.ofChange fnExactVxReadSpec)

/-- ITS FALSE NEIGHBOUR: 'it returns false'. Refute it at one input. -/
def fnExactVxReadWrong : ChangeSpec := { name := "fnExactVxRead", fn := fun _ => fun
  | [d] => { results := [.lit (.bool false)], args := [d] }
  | _ => none }
def FnExactVxReadWrongFalsely : Prop := fnExactVxReadRow.holds Try.pinned (OpenSpec.ofChange fnExactVxReadWrong)

/- THE SECOND FORM. 'bulk': how many values and letters a reading holds, each counted each time it is reached (what is shared counts as often as it is met; a slice's spare places count too). A statement '..UptoSaid' is the law's where the arguments, and the package variables that the reading takes, are together of bulk at most 1048576: NARROWER than '..Said'. Prove '..Said' where nothing that the law and all that it calls make is longer than what came in: it says more and counts as full. Else prove '..UptoSaid'. A law counts once. -/
mutual
def uptoBulk {H : Type} : DataW H → Nat
  | .lit (.string bytes) => bytes.length + 1
  | .lit _ => 1
  | .nil => 1
  | .ptr d => uptoBulk d + 1
  | .slice elems spare => uptoBulkAll elems + uptoBulkAll spare + 1
  | .agg parts => uptoBulkAll parts + 1
  | .iface _ d => uptoBulk d + 1
  | .map entries => uptoBulkEntries entries + 1
  | .held _ => 1
def uptoBulkAll {H : Type} : List (DataW H) → Nat
  | [] => 0
  | d :: r => uptoBulk d + uptoBulkAll r
def uptoBulkEntries {H : Type} : List (Lit × DataW H) → Nat
  | [] => 0
  | x :: r => uptoBulkEntry x + uptoBulkEntries r
def uptoBulkEntry {H : Type} : Lit × DataW H → Nat
  | (.string bytes, d) => bytes.length + uptoBulk d + 1
  | (_, d) => uptoBulk d + 1
 end
def uptoSmall : (H : Type) → List (DataW H) → Bool := fun _ ds => decide (uptoBulkAll ds ≤ 1048576)
def OpenSpec.upto (s : _root_.Go.ChangeSpec) : _root_.Go.OpenSpec := { _root_.Go.OpenSpec.ofChange s with cond := some uptoSmall }

/-- 'laws.FnFrames', WHERE WHAT IT READS IS OF BULK AT MOST 1048576: true; the input reads as it did. -/
def fnFramesUptoRow : OpenClaim := { program := "ytjcjohapmaiecaa", sum := "3d5868a9d3c19099e740cc36bfef8a5ffa351a89883cfbfd508ab461222084d9", func := "loop.example/g00667/laws.FnFrames", spec := "fnFrames", apart := false, narrowed := true }
def FnFramesUptoSaid : Prop := fnFramesUptoRow.holds Try.pinned (OpenSpec.upto fnFramesSpec)

/-- 'laws.FnExactIsGroup', WHERE WHAT IT READS IS OF BULK AT MOST 1048576: true; the input reads as it did. -/
def fnExactIsGroupUptoRow : OpenClaim := { program := "ytjcjohapmaiecaa", sum := "3d5868a9d3c19099e740cc36bfef8a5ffa351a89883cfbfd508ab461222084d9", func := "loop.example/g00667/laws.FnExactIsGroup", spec := "fnExactIsGroup", apart := false, narrowed := true }
def FnExactIsGroupUptoSaid : Prop := fnExactIsGroupUptoRow.holds Try.pinned (OpenSpec.upto fnExactIsGroupSpec)

/-- 'laws.FnExactEthBytes', WHERE WHAT IT READS IS OF BULK AT MOST 1048576: true; the input reads as it did. -/
def fnExactEthBytesUptoRow : OpenClaim := { program := "ytjcjohapmaiecaa", sum := "3d5868a9d3c19099e740cc36bfef8a5ffa351a89883cfbfd508ab461222084d9", func := "loop.example/g00667/laws.FnExactEthBytes", spec := "fnExactEthBytes", apart := false, narrowed := true }
def FnExactEthBytesUptoSaid : Prop := fnExactEthBytesUptoRow.holds Try.pinned (OpenSpec.upto fnExactEthBytesSpec)

/-- 'laws.FnExactEthRead', WHERE WHAT IT READS IS OF BULK AT MOST 1048576: true; the input reads as it did. -/
def fnExactEthReadUptoRow : OpenClaim := { program := "ytjcjohapmaiecaa", sum := "3d5868a9d3c19099e740cc36bfef8a5ffa351a89883cfbfd508ab461222084d9", func := "loop.example/g00667/laws.FnExactEthRead", spec := "fnExactEthRead", apart := false, narrowed := true }
def FnExactEthReadUptoSaid : Prop := fnExactEthReadUptoRow.holds Try.pinned (OpenSpec.upto fnExactEthReadSpec)

/-- 'laws.FnExactArpBytes', WHERE WHAT IT READS IS OF BULK AT MOST 1048576: true; the input reads as it did. -/
def fnExactArpBytesUptoRow : OpenClaim := { program := "ytjcjohapmaiecaa", sum := "3d5868a9d3c19099e740cc36bfef8a5ffa351a89883cfbfd508ab461222084d9", func := "loop.example/g00667/laws.FnExactArpBytes", spec := "fnExactArpBytes", apart := false, narrowed := true }
def FnExactArpBytesUptoSaid : Prop := fnExactArpBytesUptoRow.holds Try.pinned (OpenSpec.upto fnExactArpBytesSpec)

/-- 'laws.FnExactArpRead', WHERE WHAT IT READS IS OF BULK AT MOST 1048576: true; the input reads as it did. -/
def fnExactArpReadUptoRow : OpenClaim := { program := "ytjcjohapmaiecaa", sum := "3d5868a9d3c19099e740cc36bfef8a5ffa351a89883cfbfd508ab461222084d9", func := "loop.example/g00667/laws.FnExactArpRead", spec := "fnExactArpRead", apart := false, narrowed := true }
def FnExactArpReadUptoSaid : Prop := fnExactArpReadUptoRow.holds Try.pinned (OpenSpec.upto fnExactArpReadSpec)

/-- 'laws.FnExactVxBytes', WHERE WHAT IT READS IS OF BULK AT MOST 1048576: true; the input reads as it did. -/
def fnExactVxBytesUptoRow : OpenClaim := { program := "ytjcjohapmaiecaa", sum := "3d5868a9d3c19099e740cc36bfef8a5ffa351a89883cfbfd508ab461222084d9", func := "loop.example/g00667/laws.FnExactVxBytes", spec := "fnExactVxBytes", apart := false, narrowed := true }
def FnExactVxBytesUptoSaid : Prop := fnExactVxBytesUptoRow.holds Try.pinned (OpenSpec.upto fnExactVxBytesSpec)

/-- 'laws.FnExactVxRead', WHERE WHAT IT READS IS OF BULK AT MOST 1048576: true; the input reads as it did. -/
def fnExactVxReadUptoRow : OpenClaim := { program := "ytjcjohapmaiecaa", sum := "3d5868a9d3c19099e740cc36bfef8a5ffa351a89883cfbfd508ab461222084d9", func := "loop.example/g00667/laws.FnExactVxRead", spec := "fnExactVxRead", apart := false, narrowed := true }
def FnExactVxReadUptoSaid : Prop := fnExactVxReadUptoRow.holds Try.pinned (OpenSpec.upto fnExactVxReadSpec)

end Rows
end Go.Proofs.Ytjcjohapmaiecaa
