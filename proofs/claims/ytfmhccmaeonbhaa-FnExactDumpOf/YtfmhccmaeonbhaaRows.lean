/-
  No cell of these rows narrows 'for every input' (looked for: loops, veiled, ifaces, maps, wideKeys, modest, calm, conditions, laid).
  DERIVED. THE GIVEN ROWS OF THIS SEAT. 11 by the template 'for every input the law returns true; each argument reads behind the call as it read before'; 0 by the template 'total and deterministic' (their statements: YtfmhccmaeonbhaaTotals.lean).
  GIVEN WITH THE SEED: the statements are not yours to turn. If you find one false, say at which input.
  Laid BY PROGRAM, IN A SANDBOX (cutbox-rows.mjs): the forced cells as the released guide's own fill.sh prints them over the translation 5944ce3b48c1d0e3… (all of the seat's roots in one cut). By AI agents, Wed Nov 11 2026. No macro, syntax, notation, axiom, sorry.
-/
import Derived.Test.YtfmhccmaeonbhaaChecked
import GoSem.Claim
import GoSem.ClaimJoined
import GoSem.ClaimMapViews
import Derived.JoinedTies
import Derived.KernelRfl
namespace Go.Proofs.Ytfmhccmaeonbhaa
/- THE CELL 'sum', in the pinned program and in every row, IS THE sha256 OF THE DUMP (.gsa) THAT YtfmhccmaeonbhaaProg.lean LOADS. Nothing in Lean hashes anything: it is a label: what it is worth is what the hold of that sum in a sandbox is worth. -/
noncomputable def Try.pinned : Pinned := { name := "ytfmhccmaeonbhaa", sum := "5944ce3b48c1d0e3b5f801e742d985eac12381689ec6594732187234ee7004b2", checked := Try.checked }
namespace Rows
def none {H : Type} : Left H := { results := [], args := [] }

/-- 'laws.FnExactPacketRight': WHATEVER THE INPUT: true; the input reads as it did. -/
def fnExactPacketRightSpec : ChangeSpec := { name := "fnExactPacketRight", fn := fun _ => fun
  | [d] => { results := [.lit (.bool true)], args := [d] }
  | _ => none }
def fnExactPacketRightRow : OpenClaim := { program := "ytfmhccmaeonbhaa", sum := "5944ce3b48c1d0e3b5f801e742d985eac12381689ec6594732187234ee7004b2", func := "loop.example/g00667/laws.FnExactPacketRight", spec := "fnExactPacketRight", apart := false }
def FnExactPacketRightSaid : Prop := fnExactPacketRightRow.holds Try.pinned (OpenSpec.ofChange fnExactPacketRightSpec)

/-- ITS FALSE NEIGHBOUR: 'it returns false'. Refute it at one input. -/
def fnExactPacketRightWrong : ChangeSpec := { name := "fnExactPacketRight", fn := fun _ => fun
  | [d] => { results := [.lit (.bool false)], args := [d] }
  | _ => none }
def FnExactPacketRightWrongFalsely : Prop := fnExactPacketRightRow.holds Try.pinned (OpenSpec.ofChange fnExactPacketRightWrong)

/-- 'laws.FnExactPipeNew': WHATEVER THE INPUT: true; the input reads as it did. -/
def fnExactPipeNewSpec : ChangeSpec := { name := "fnExactPipeNew", fn := fun _ => fun
  | [d] => { results := [.lit (.bool true)], args := [d] }
  | _ => none }
def fnExactPipeNewRow : OpenClaim := { program := "ytfmhccmaeonbhaa", sum := "5944ce3b48c1d0e3b5f801e742d985eac12381689ec6594732187234ee7004b2", func := "loop.example/g00667/laws.FnExactPipeNew", spec := "fnExactPipeNew", apart := false }
def FnExactPipeNewSaid : Prop := fnExactPipeNewRow.holds Try.pinned (OpenSpec.ofChange fnExactPipeNewSpec)

/-- ITS FALSE NEIGHBOUR: 'it returns false'. Refute it at one input. -/
def fnExactPipeNewWrong : ChangeSpec := { name := "fnExactPipeNew", fn := fun _ => fun
  | [d] => { results := [.lit (.bool false)], args := [d] }
  | _ => none }
def FnExactPipeNewWrongFalsely : Prop := fnExactPipeNewRow.holds Try.pinned (OpenSpec.ofChange fnExactPipeNewWrong)

/-- 'laws.FnExactPipeRight': WHATEVER THE INPUT: true; the input reads as it did. -/
def fnExactPipeRightSpec : ChangeSpec := { name := "fnExactPipeRight", fn := fun _ => fun
  | [d] => { results := [.lit (.bool true)], args := [d] }
  | _ => none }
def fnExactPipeRightRow : OpenClaim := { program := "ytfmhccmaeonbhaa", sum := "5944ce3b48c1d0e3b5f801e742d985eac12381689ec6594732187234ee7004b2", func := "loop.example/g00667/laws.FnExactPipeRight", spec := "fnExactPipeRight", apart := false }
def FnExactPipeRightSaid : Prop := fnExactPipeRightRow.holds Try.pinned (OpenSpec.ofChange fnExactPipeRightSpec)

/-- ITS FALSE NEIGHBOUR: 'it returns false'. Refute it at one input. -/
def fnExactPipeRightWrong : ChangeSpec := { name := "fnExactPipeRight", fn := fun _ => fun
  | [d] => { results := [.lit (.bool false)], args := [d] }
  | _ => none }
def FnExactPipeRightWrongFalsely : Prop := fnExactPipeRightRow.holds Try.pinned (OpenSpec.ofChange fnExactPipeRightWrong)

/-- 'laws.FnExactPipeReset': WHATEVER THE INPUT: true; the input reads as it did. -/
def fnExactPipeResetSpec : ChangeSpec := { name := "fnExactPipeReset", fn := fun _ => fun
  | [d1, d2] => { results := [.lit (.bool true)], args := [d1, d2] }
  | _ => none }
def fnExactPipeResetRow : OpenClaim := { program := "ytfmhccmaeonbhaa", sum := "5944ce3b48c1d0e3b5f801e742d985eac12381689ec6594732187234ee7004b2", func := "loop.example/g00667/laws.FnExactPipeReset", spec := "fnExactPipeReset", apart := false }
def FnExactPipeResetSaid : Prop := fnExactPipeResetRow.holds Try.pinned (OpenSpec.ofChange fnExactPipeResetSpec)

/-- ITS FALSE NEIGHBOUR: 'it returns false'. Refute it at one input. -/
def fnExactPipeResetWrong : ChangeSpec := { name := "fnExactPipeReset", fn := fun _ => fun
  | [d1, d2] => { results := [.lit (.bool false)], args := [d1, d2] }
  | _ => none }
def FnExactPipeResetWrongFalsely : Prop := fnExactPipeResetRow.holds Try.pinned (OpenSpec.ofChange fnExactPipeResetWrong)

/-- 'laws.FnExactPacketBytes': WHATEVER THE INPUT: true; the input reads as it did. -/
def fnExactPacketBytesSpec : ChangeSpec := { name := "fnExactPacketBytes", fn := fun _ => fun
  | [d] => { results := [.lit (.bool true)], args := [d] }
  | _ => none }
def fnExactPacketBytesRow : OpenClaim := { program := "ytfmhccmaeonbhaa", sum := "5944ce3b48c1d0e3b5f801e742d985eac12381689ec6594732187234ee7004b2", func := "loop.example/g00667/laws.FnExactPacketBytes", spec := "fnExactPacketBytes", apart := false }
def FnExactPacketBytesSaid : Prop := fnExactPacketBytesRow.holds Try.pinned (OpenSpec.ofChange fnExactPacketBytesSpec)

/-- ITS FALSE NEIGHBOUR: 'it returns false'. Refute it at one input. -/
def fnExactPacketBytesWrong : ChangeSpec := { name := "fnExactPacketBytes", fn := fun _ => fun
  | [d] => { results := [.lit (.bool false)], args := [d] }
  | _ => none }
def FnExactPacketBytesWrongFalsely : Prop := fnExactPacketBytesRow.holds Try.pinned (OpenSpec.ofChange fnExactPacketBytesWrong)

/-- 'laws.FnExactPipePut': WHATEVER THE INPUT: true; the input reads as it did. -/
def fnExactPipePutSpec : ChangeSpec := { name := "fnExactPipePut", fn := fun _ => fun
  | [d1, d2] => { results := [.lit (.bool true)], args := [d1, d2] }
  | _ => none }
def fnExactPipePutRow : OpenClaim := { program := "ytfmhccmaeonbhaa", sum := "5944ce3b48c1d0e3b5f801e742d985eac12381689ec6594732187234ee7004b2", func := "loop.example/g00667/laws.FnExactPipePut", spec := "fnExactPipePut", apart := false }
def FnExactPipePutSaid : Prop := fnExactPipePutRow.holds Try.pinned (OpenSpec.ofChange fnExactPipePutSpec)

/-- ITS FALSE NEIGHBOUR: 'it returns false'. Refute it at one input. -/
def fnExactPipePutWrong : ChangeSpec := { name := "fnExactPipePut", fn := fun _ => fun
  | [d1, d2] => { results := [.lit (.bool false)], args := [d1, d2] }
  | _ => none }
def FnExactPipePutWrongFalsely : Prop := fnExactPipePutRow.holds Try.pinned (OpenSpec.ofChange fnExactPipePutWrong)

/-- 'laws.FnExactPipeHear': WHATEVER THE INPUT: true; the input reads as it did. -/
def fnExactPipeHearSpec : ChangeSpec := { name := "fnExactPipeHear", fn := fun _ => fun
  | [d1, d2] => { results := [.lit (.bool true)], args := [d1, d2] }
  | _ => none }
def fnExactPipeHearRow : OpenClaim := { program := "ytfmhccmaeonbhaa", sum := "5944ce3b48c1d0e3b5f801e742d985eac12381689ec6594732187234ee7004b2", func := "loop.example/g00667/laws.FnExactPipeHear", spec := "fnExactPipeHear", apart := false }
def FnExactPipeHearSaid : Prop := fnExactPipeHearRow.holds Try.pinned (OpenSpec.ofChange fnExactPipeHearSpec)

/-- ITS FALSE NEIGHBOUR: 'it returns false'. Refute it at one input. -/
def fnExactPipeHearWrong : ChangeSpec := { name := "fnExactPipeHear", fn := fun _ => fun
  | [d1, d2] => { results := [.lit (.bool false)], args := [d1, d2] }
  | _ => none }
def FnExactPipeHearWrongFalsely : Prop := fnExactPipeHearRow.holds Try.pinned (OpenSpec.ofChange fnExactPipeHearWrong)

/-- 'laws.FnExactPipeSend': WHATEVER THE INPUT: true; the input reads as it did. -/
def fnExactPipeSendSpec : ChangeSpec := { name := "fnExactPipeSend", fn := fun _ => fun
  | [d] => { results := [.lit (.bool true)], args := [d] }
  | _ => none }
def fnExactPipeSendRow : OpenClaim := { program := "ytfmhccmaeonbhaa", sum := "5944ce3b48c1d0e3b5f801e742d985eac12381689ec6594732187234ee7004b2", func := "loop.example/g00667/laws.FnExactPipeSend", spec := "fnExactPipeSend", unfollowed := true, recurses := true, apart := false }
def FnExactPipeSendSaid : Prop := fnExactPipeSendRow.holds Try.pinned (OpenSpec.ofChange fnExactPipeSendSpec)

/-- ITS FALSE NEIGHBOUR: 'it returns false'. Refute it at one input. -/
def fnExactPipeSendWrong : ChangeSpec := { name := "fnExactPipeSend", fn := fun _ => fun
  | [d] => { results := [.lit (.bool false)], args := [d] }
  | _ => none }
def FnExactPipeSendWrongFalsely : Prop := fnExactPipeSendRow.holds Try.pinned (OpenSpec.ofChange fnExactPipeSendWrong)

/-- 'laws.FnExactDumpOf': WHATEVER THE INPUT: true; the input reads as it did. -/
def fnExactDumpOfSpec : ChangeSpec := { name := "fnExactDumpOf", fn := fun _ => fun
  | [d] => { results := [.lit (.bool true)], args := [d] }
  | _ => none }
def fnExactDumpOfRow : OpenClaim := { program := "ytfmhccmaeonbhaa", sum := "5944ce3b48c1d0e3b5f801e742d985eac12381689ec6594732187234ee7004b2", func := "loop.example/g00667/laws.FnExactDumpOf", spec := "fnExactDumpOf", unfollowed := true, recurses := true, apart := false }
def FnExactDumpOfSaid : Prop := fnExactDumpOfRow.holds Try.pinned (OpenSpec.ofChange fnExactDumpOfSpec)

/-- ITS FALSE NEIGHBOUR: 'it returns false'. Refute it at one input. -/
def fnExactDumpOfWrong : ChangeSpec := { name := "fnExactDumpOf", fn := fun _ => fun
  | [d] => { results := [.lit (.bool false)], args := [d] }
  | _ => none }
def FnExactDumpOfWrongFalsely : Prop := fnExactDumpOfRow.holds Try.pinned (OpenSpec.ofChange fnExactDumpOfWrong)

/-- 'laws.FnExactRouteBytes': WHATEVER THE INPUT: true; the input reads as it did. -/
def fnExactRouteBytesSpec : ChangeSpec := { name := "fnExactRouteBytes", fn := fun _ => fun
  | [d] => { results := [.lit (.bool true)], args := [d] }
  | _ => none }
def fnExactRouteBytesRow : OpenClaim := { program := "ytfmhccmaeonbhaa", sum := "5944ce3b48c1d0e3b5f801e742d985eac12381689ec6594732187234ee7004b2", func := "loop.example/g00667/laws.FnExactRouteBytes", spec := "fnExactRouteBytes", apart := false }
def FnExactRouteBytesSaid : Prop := fnExactRouteBytesRow.holds Try.pinned (OpenSpec.ofChange fnExactRouteBytesSpec)

/-- ITS FALSE NEIGHBOUR: 'it returns false'. Refute it at one input. -/
def fnExactRouteBytesWrong : ChangeSpec := { name := "fnExactRouteBytes", fn := fun _ => fun
  | [d] => { results := [.lit (.bool false)], args := [d] }
  | _ => none }
def FnExactRouteBytesWrongFalsely : Prop := fnExactRouteBytesRow.holds Try.pinned (OpenSpec.ofChange fnExactRouteBytesWrong)

/-- 'laws.FnExactNoteBytes': WHATEVER THE INPUT: true; the input reads as it did. -/
def fnExactNoteBytesSpec : ChangeSpec := { name := "fnExactNoteBytes", fn := fun _ => fun
  | [d] => { results := [.lit (.bool true)], args := [d] }
  | _ => none }
def fnExactNoteBytesRow : OpenClaim := { program := "ytfmhccmaeonbhaa", sum := "5944ce3b48c1d0e3b5f801e742d985eac12381689ec6594732187234ee7004b2", func := "loop.example/g00667/laws.FnExactNoteBytes", spec := "fnExactNoteBytes", unfollowed := true, recurses := true, apart := false }
def FnExactNoteBytesSaid : Prop := fnExactNoteBytesRow.holds Try.pinned (OpenSpec.ofChange fnExactNoteBytesSpec)

/-- ITS FALSE NEIGHBOUR: 'it returns false'. Refute it at one input. -/
def fnExactNoteBytesWrong : ChangeSpec := { name := "fnExactNoteBytes", fn := fun _ => fun
  | [d] => { results := [.lit (.bool false)], args := [d] }
  | _ => none }
def FnExactNoteBytesWrongFalsely : Prop := fnExactNoteBytesRow.holds Try.pinned (OpenSpec.ofChange fnExactNoteBytesWrong)

/- THE SECOND FORM. 'bulk': how many values and letters a reading holds, each counted each time it is reached (what is shared counts as often as it is met; a slice's spare places count too). A statement '..UptoSaid' is the law's where the arguments, and the package variables that the reading takes, are together of bulk at most 1048576: NARROWER than '..Said'. Prove '..Said' where nothing that the law and all that it calls make is longer than what came in: it says more and counts as full. Else prove '..UptoSaid'. A law counts once. -/
mutual
def uptoBulk {H : Type} : DataW H → Nat
  | .lit (.string bytes) => bytes.length + 1
  | .lit _ => 1
  | .nil => 1
  | .ptr d => uptoBulk d + 1
  | .slice elems spare => uptoBulkAll elems + uptoBulkAll spare + 1
  | .agg parts => uptoBulkAll parts + 1
  | .iface _ d => uptoBulk d + 1
  | .map entries => uptoBulkEntries entries + 1
  | .held _ => 1
def uptoBulkAll {H : Type} : List (DataW H) → Nat
  | [] => 0
  | d :: r => uptoBulk d + uptoBulkAll r
def uptoBulkEntries {H : Type} : List (Lit × DataW H) → Nat
  | [] => 0
  | x :: r => uptoBulkEntry x + uptoBulkEntries r
def uptoBulkEntry {H : Type} : Lit × DataW H → Nat
  | (.string bytes, d) => bytes.length + uptoBulk d + 1
  | (_, d) => uptoBulk d + 1
 end
def uptoSmall : (H : Type) → List (DataW H) → Bool := fun _ ds => decide (uptoBulkAll ds ≤ 1048576)
def OpenSpec.upto (s : _root_.Go.ChangeSpec) : _root_.Go.OpenSpec := { _root_.Go.OpenSpec.ofChange s with cond := some uptoSmall }

/-- 'laws.FnExactPacketRight', WHERE WHAT IT READS IS OF BULK AT MOST 1048576: true; the input reads as it did. -/
def fnExactPacketRightUptoRow : OpenClaim := { program := "ytfmhccmaeonbhaa", sum := "5944ce3b48c1d0e3b5f801e742d985eac12381689ec6594732187234ee7004b2", func := "loop.example/g00667/laws.FnExactPacketRight", spec := "fnExactPacketRight", apart := false, narrowed := true }
def FnExactPacketRightUptoSaid : Prop := fnExactPacketRightUptoRow.holds Try.pinned (OpenSpec.upto fnExactPacketRightSpec)

/-- 'laws.FnExactPipeNew', WHERE WHAT IT READS IS OF BULK AT MOST 1048576: true; the input reads as it did. -/
def fnExactPipeNewUptoRow : OpenClaim := { program := "ytfmhccmaeonbhaa", sum := "5944ce3b48c1d0e3b5f801e742d985eac12381689ec6594732187234ee7004b2", func := "loop.example/g00667/laws.FnExactPipeNew", spec := "fnExactPipeNew", apart := false, narrowed := true }
def FnExactPipeNewUptoSaid : Prop := fnExactPipeNewUptoRow.holds Try.pinned (OpenSpec.upto fnExactPipeNewSpec)

/-- 'laws.FnExactPipeRight', WHERE WHAT IT READS IS OF BULK AT MOST 1048576: true; the input reads as it did. -/
def fnExactPipeRightUptoRow : OpenClaim := { program := "ytfmhccmaeonbhaa", sum := "5944ce3b48c1d0e3b5f801e742d985eac12381689ec6594732187234ee7004b2", func := "loop.example/g00667/laws.FnExactPipeRight", spec := "fnExactPipeRight", apart := false, narrowed := true }
def FnExactPipeRightUptoSaid : Prop := fnExactPipeRightUptoRow.holds Try.pinned (OpenSpec.upto fnExactPipeRightSpec)

/-- 'laws.FnExactPipeReset', WHERE WHAT IT READS IS OF BULK AT MOST 1048576: true; the input reads as it did. -/
def fnExactPipeResetUptoRow : OpenClaim := { program := "ytfmhccmaeonbhaa", sum := "5944ce3b48c1d0e3b5f801e742d985eac12381689ec6594732187234ee7004b2", func := "loop.example/g00667/laws.FnExactPipeReset", spec := "fnExactPipeReset", apart := false, narrowed := true }
def FnExactPipeResetUptoSaid : Prop := fnExactPipeResetUptoRow.holds Try.pinned (OpenSpec.upto fnExactPipeResetSpec)

/-- 'laws.FnExactPacketBytes', WHERE WHAT IT READS IS OF BULK AT MOST 1048576: true; the input reads as it did. -/
def fnExactPacketBytesUptoRow : OpenClaim := { program := "ytfmhccmaeonbhaa", sum := "5944ce3b48c1d0e3b5f801e742d985eac12381689ec6594732187234ee7004b2", func := "loop.example/g00667/laws.FnExactPacketBytes", spec := "fnExactPacketBytes", apart := false, narrowed := true }
def FnExactPacketBytesUptoSaid : Prop := fnExactPacketBytesUptoRow.holds Try.pinned (OpenSpec.upto fnExactPacketBytesSpec)

/-- 'laws.FnExactPipePut', WHERE WHAT IT READS IS OF BULK AT MOST 1048576: true; the input reads as it did. -/
def fnExactPipePutUptoRow : OpenClaim := { program := "ytfmhccmaeonbhaa", sum := "5944ce3b48c1d0e3b5f801e742d985eac12381689ec6594732187234ee7004b2", func := "loop.example/g00667/laws.FnExactPipePut", spec := "fnExactPipePut", apart := false, narrowed := true }
def FnExactPipePutUptoSaid : Prop := fnExactPipePutUptoRow.holds Try.pinned (OpenSpec.upto fnExactPipePutSpec)

/-- 'laws.FnExactPipeHear', WHERE WHAT IT READS IS OF BULK AT MOST 1048576: true; the input reads as it did. -/
def fnExactPipeHearUptoRow : OpenClaim := { program := "ytfmhccmaeonbhaa", sum := "5944ce3b48c1d0e3b5f801e742d985eac12381689ec6594732187234ee7004b2", func := "loop.example/g00667/laws.FnExactPipeHear", spec := "fnExactPipeHear", apart := false, narrowed := true }
def FnExactPipeHearUptoSaid : Prop := fnExactPipeHearUptoRow.holds Try.pinned (OpenSpec.upto fnExactPipeHearSpec)

/-- 'laws.FnExactPipeSend', WHERE WHAT IT READS IS OF BULK AT MOST 1048576: true; the input reads as it did. -/
def fnExactPipeSendUptoRow : OpenClaim := { program := "ytfmhccmaeonbhaa", sum := "5944ce3b48c1d0e3b5f801e742d985eac12381689ec6594732187234ee7004b2", func := "loop.example/g00667/laws.FnExactPipeSend", spec := "fnExactPipeSend", unfollowed := true, recurses := true, apart := false, narrowed := true }
def FnExactPipeSendUptoSaid : Prop := fnExactPipeSendUptoRow.holds Try.pinned (OpenSpec.upto fnExactPipeSendSpec)

/-- 'laws.FnExactDumpOf', WHERE WHAT IT READS IS OF BULK AT MOST 1048576: true; the input reads as it did. -/
def fnExactDumpOfUptoRow : OpenClaim := { program := "ytfmhccmaeonbhaa", sum := "5944ce3b48c1d0e3b5f801e742d985eac12381689ec6594732187234ee7004b2", func := "loop.example/g00667/laws.FnExactDumpOf", spec := "fnExactDumpOf", unfollowed := true, recurses := true, apart := false, narrowed := true }
def FnExactDumpOfUptoSaid : Prop := fnExactDumpOfUptoRow.holds Try.pinned (OpenSpec.upto fnExactDumpOfSpec)

/-- 'laws.FnExactRouteBytes', WHERE WHAT IT READS IS OF BULK AT MOST 1048576: true; the input reads as it did. -/
def fnExactRouteBytesUptoRow : OpenClaim := { program := "ytfmhccmaeonbhaa", sum := "5944ce3b48c1d0e3b5f801e742d985eac12381689ec6594732187234ee7004b2", func := "loop.example/g00667/laws.FnExactRouteBytes", spec := "fnExactRouteBytes", apart := false, narrowed := true }
def FnExactRouteBytesUptoSaid : Prop := fnExactRouteBytesUptoRow.holds Try.pinned (OpenSpec.upto fnExactRouteBytesSpec)

/-- 'laws.FnExactNoteBytes', WHERE WHAT IT READS IS OF BULK AT MOST 1048576: true; the input reads as it did. -/
def fnExactNoteBytesUptoRow : OpenClaim := { program := "ytfmhccmaeonbhaa", sum := "5944ce3b48c1d0e3b5f801e742d985eac12381689ec6594732187234ee7004b2", func := "loop.example/g00667/laws.FnExactNoteBytes", spec := "fnExactNoteBytes", unfollowed := true, recurses := true, apart := false, narrowed := true }
def FnExactNoteBytesUptoSaid : Prop := fnExactNoteBytesUptoRow.holds Try.pinned (OpenSpec.upto fnExactNoteBytesSpec)

end Rows
end Go.Proofs.Ytfmhccmaeonbhaa
