/-
  No cell of these rows narrows 'for every input' (looked for: loops, veiled, ifaces, maps, wideKeys, modest, calm, conditions, laid).
  DERIVED. THE GIVEN ROWS OF THIS SEAT. 3 by the template 'for every input the law returns true; each argument reads behind the call as it read before'; 0 by the template 'total and deterministic' (their statements: YtjkhnmeplkbfdaaTotals.lean).
  GIVEN WITH THE SEED: the statements are not yours to turn. If you find one false, say at which input.
  Laid BY PROGRAM, IN A SANDBOX (cutbox-rows.mjs): the forced cells as the released guide's own fill.sh prints them over the translation 41f2f64b14117d65… (all of the seat's roots in one cut). By AI agents, Wed Nov 11 2026. No macro, syntax, notation, axiom, sorry.
-/
import Derived.Test.YtjkhnmeplkbfdaaChecked
import GoSem.Claim
import GoSem.ClaimJoined
import GoSem.ClaimMapViews
import Derived.JoinedTies
import Derived.KernelRfl
namespace Go.Proofs.Ytjkhnmeplkbfdaa
/- THE CELL 'sum', in the pinned program and in every row, IS THE sha256 OF THE DUMP (.gsa) THAT YtjkhnmeplkbfdaaProg.lean LOADS. Nothing in Lean hashes anything: it is a label: what it is worth is what the hold of that sum in a sandbox is worth. -/
noncomputable def Try.pinned : Pinned := { name := "ytjkhnmeplkbfdaa", sum := "41f2f64b14117d6521b4ef64c4e3c34511bc9a352975e0dcfeca297b6b060a6c", checked := Try.checked }
namespace Rows
def none {H : Type} : Left H := { results := [], args := [] }

/-- 'laws.FnExactNoteRight': WHATEVER THE INPUT: true; the input reads as it did. -/
def fnExactNoteRightSpec : ChangeSpec := { name := "fnExactNoteRight", fn := fun _ => fun
  | [d] => { results := [.lit (.bool true)], args := [d] }
  | _ => none }
def fnExactNoteRightRow : OpenClaim := { program := "ytjkhnmeplkbfdaa", sum := "41f2f64b14117d6521b4ef64c4e3c34511bc9a352975e0dcfeca297b6b060a6c", func := "loop.example/g00667/laws.FnExactNoteRight", spec := "fnExactNoteRight", unfollowed := true, recurses := true, apart := false }
def FnExactNoteRightSaid : Prop := fnExactNoteRightRow.holds Try.pinned (OpenSpec.ofChange fnExactNoteRightSpec)

/-- ITS FALSE NEIGHBOUR: 'it returns false'. Refute it at one input. -/
def fnExactNoteRightWrong : ChangeSpec := { name := "fnExactNoteRight", fn := fun _ => fun
  | [d] => { results := [.lit (.bool false)], args := [d] }
  | _ => none }
def FnExactNoteRightWrongFalsely : Prop := fnExactNoteRightRow.holds Try.pinned (OpenSpec.ofChange fnExactNoteRightWrong)

/-- 'laws.FnExactNoteBytes': WHATEVER THE INPUT: true; the input reads as it did. -/
def fnExactNoteBytesSpec : ChangeSpec := { name := "fnExactNoteBytes", fn := fun _ => fun
  | [d] => { results := [.lit (.bool true)], args := [d] }
  | _ => none }
def fnExactNoteBytesRow : OpenClaim := { program := "ytjkhnmeplkbfdaa", sum := "41f2f64b14117d6521b4ef64c4e3c34511bc9a352975e0dcfeca297b6b060a6c", func := "loop.example/g00667/laws.FnExactNoteBytes", spec := "fnExactNoteBytes", unfollowed := true, recurses := true, apart := false }
def FnExactNoteBytesSaid : Prop := fnExactNoteBytesRow.holds Try.pinned (OpenSpec.ofChange fnExactNoteBytesSpec)

/-- ITS FALSE NEIGHBOUR: 'it returns false'. Refute it at one input. -/
def fnExactNoteBytesWrong : ChangeSpec := { name := "fnExactNoteBytes", fn := fun _ => fun
  | [d] => { results := [.lit (.bool false)], args := [d] }
  | _ => none }
def FnExactNoteBytesWrongFalsely : Prop := fnExactNoteBytesRow.holds Try.pinned (OpenSpec.ofChange fnExactNoteBytesWrong)

/-- 'laws.FnExactDumpOf': WHATEVER THE INPUT: true; the input reads as it did. -/
def fnExactDumpOfSpec : ChangeSpec := { name := "fnExactDumpOf", fn := fun _ => fun
  | [d] => { results := [.lit (.bool true)], args := [d] }
  | _ => none }
def fnExactDumpOfRow : OpenClaim := { program := "ytjkhnmeplkbfdaa", sum := "41f2f64b14117d6521b4ef64c4e3c34511bc9a352975e0dcfeca297b6b060a6c", func := "loop.example/g00667/laws.FnExactDumpOf", spec := "fnExactDumpOf", unfollowed := true, recurses := true, apart := false }
def FnExactDumpOfSaid : Prop := fnExactDumpOfRow.holds Try.pinned (OpenSpec.ofChange fnExactDumpOfSpec)

/-- ITS FALSE NEIGHBOUR: 'it returns false'. Refute it at one input. -/
def fnExactDumpOfWrong : ChangeSpec := { name := "fnExactDumpOf", fn := fun _ => fun
  | [d] => { results := [.lit (.bool false)], args := [d] }
  | _ => none }
def FnExactDumpOfWrongFalsely : Prop := fnExactDumpOfRow.holds Try.pinned (OpenSpec.ofChange fnExactDumpOfWrong)

/- THE SECOND FORM. 'bulk': how many values and letters a reading holds, each counted each time it is reached (what is shared counts as often as it is met; a slice's spare places count too). A statement '..UptoSaid' is the law's where the arguments, and the package variables that the reading takes, are together of bulk at most 1048576: NARROWER than '..Said'. Prove '..Said' where nothing that the law and all that it calls make is longer than what came in: it says more and counts as full. Else prove '..UptoSaid'. A law counts once. -/
mutual
def uptoBulk {H : Type} : DataW H → Nat
  | .lit (.string bytes) => bytes.length + 1
  | .lit _ => 1
  | .nil => 1
  | .ptr d => uptoBulk d + 1
  | .slice elems spare => uptoBulkAll elems + uptoBulkAll spare + 1
  | .agg parts => uptoBulkAll parts + 1
  | .iface _ d => uptoBulk d + 1
  | .map entries => uptoBulkEntries entries + 1
  | .held _ => 1
def uptoBulkAll {H : Type} : List (DataW H) → Nat
  | [] => 0
  | d :: r => uptoBulk d + uptoBulkAll r
def uptoBulkEntries {H : Type} : List (Lit × DataW H) → Nat
  | [] => 0
  | x :: r => uptoBulkEntry x + uptoBulkEntries r
def uptoBulkEntry {H : Type} : Lit × DataW H → Nat
  | (.string bytes, d) => bytes.length + uptoBulk d + 1
  | (_, d) => uptoBulk d + 1
 end
def uptoSmall : (H : Type) → List (DataW H) → Bool := fun _ ds => decide (uptoBulkAll ds ≤ 1048576)
def OpenSpec.upto (s : _root_.Go.ChangeSpec) : _root_.Go.OpenSpec := { _root_.Go.OpenSpec.ofChange s with cond := some uptoSmall }

/-- 'laws.FnExactNoteRight', WHERE WHAT IT READS IS OF BULK AT MOST 1048576: true; the input reads as it did. -/
def fnExactNoteRightUptoRow : OpenClaim := { program := "ytjkhnmeplkbfdaa", sum := "41f2f64b14117d6521b4ef64c4e3c34511bc9a352975e0dcfeca297b6b060a6c", func := "loop.example/g00667/laws.FnExactNoteRight", spec := "fnExactNoteRight", unfollowed := true, recurses := true, apart := false, narrowed := true }
def FnExactNoteRightUptoSaid : Prop := fnExactNoteRightUptoRow.holds Try.pinned (OpenSpec.upto fnExactNoteRightSpec)

/-- 'laws.FnExactNoteBytes', WHERE WHAT IT READS IS OF BULK AT MOST 1048576: true; the input reads as it did. -/
def fnExactNoteBytesUptoRow : OpenClaim := { program := "ytjkhnmeplkbfdaa", sum := "41f2f64b14117d6521b4ef64c4e3c34511bc9a352975e0dcfeca297b6b060a6c", func := "loop.example/g00667/laws.FnExactNoteBytes", spec := "fnExactNoteBytes", unfollowed := true, recurses := true, apart := false, narrowed := true }
def FnExactNoteBytesUptoSaid : Prop := fnExactNoteBytesUptoRow.holds Try.pinned (OpenSpec.upto fnExactNoteBytesSpec)

/-- 'laws.FnExactDumpOf', WHERE WHAT IT READS IS OF BULK AT MOST 1048576: true; the input reads as it did. -/
def fnExactDumpOfUptoRow : OpenClaim := { program := "ytjkhnmeplkbfdaa", sum := "41f2f64b14117d6521b4ef64c4e3c34511bc9a352975e0dcfeca297b6b060a6c", func := "loop.example/g00667/laws.FnExactDumpOf", spec := "fnExactDumpOf", unfollowed := true, recurses := true, apart := false, narrowed := true }
def FnExactDumpOfUptoSaid : Prop := fnExactDumpOfUptoRow.holds Try.pinned (OpenSpec.upto fnExactDumpOfSpec)

end Rows
end Go.Proofs.Ytjkhnmeplkbfdaa
