/-
  No cell of these rows narrows 'for every input' (looked for: loops, veiled, ifaces, maps, wideKeys, modest, calm, conditions, laid).
  DERIVED. THE GIVEN ROWS OF THIS SEAT. 6 by the template 'for every input the law returns true; each argument reads behind the call as it read before'; 0 by the template 'total and deterministic' (their statements: YtglealihdkecpaaGreatTotals.lean).
  GIVEN WITH THE SEED: the statements are not yours to turn. If you find one false, say at which input.
  Laid BY PROGRAM, IN A SANDBOX (cutbox-rows.mjs): the forced cells as the released guide's own fill.sh prints them over the translation 099b4918f51763f8… (all of the seat's roots in one cut). By AI agents, Wed Nov 11 2026. No macro, syntax, notation, axiom, sorry.
-/
import Derived.Test.YtglealihdkecpaaGreatChecked
import GoSem.Claim
import GoSem.ClaimJoined
import GoSem.ClaimMapViews
import Derived.JoinedTies
import Derived.KernelRfl
namespace Go.Proofs.YtglealihdkecpaaGreat
/- THE CELL 'sum', in the pinned program and in every row, IS THE sha256 OF THE DUMP (.gsa) THAT YtglealihdkecpaaGreatProg.lean LOADS. Nothing in Lean hashes anything: it is a label: what it is worth is what the hold of that sum in a sandbox is worth. -/
noncomputable def Tryz.pinned : Pinned := { name := "ytglealihdkecpaagreat", sum := "099b4918f51763f8ec1f56d4a46e7e6e43c093c798a1e5374f2308fea46e1f9d", checked := Tryz.checked }
namespace Rows
def none {H : Type} : Left H := { results := [], args := [] }

/-- 'laws.FnExactHouseRight': WHATEVER THE INPUT: true; the input reads as it did. -/
def fnExactHouseRightSpec : ChangeSpec := { name := "fnExactHouseRight", fn := fun _ => fun
  | [d] => { results := [.lit (.bool true)], args := [d] }
  | _ => none }
def fnExactHouseRightRow : OpenClaim := { program := "ytglealihdkecpaagreat", sum := "099b4918f51763f8ec1f56d4a46e7e6e43c093c798a1e5374f2308fea46e1f9d", func := "loop.example/g00667/laws.FnExactHouseRight", spec := "fnExactHouseRight", unfollowed := true, recurses := true, plainKeys := false, apart := false }
def FnExactHouseRightSaid : Prop := fnExactHouseRightRow.holds Tryz.pinned (OpenSpec.ofChange fnExactHouseRightSpec)

/-- ITS FALSE NEIGHBOUR: 'it returns false'. Refute it at one input. -/
def fnExactHouseRightWrong : ChangeSpec := { name := "fnExactHouseRight", fn := fun _ => fun
  | [d] => { results := [.lit (.bool false)], args := [d] }
  | _ => none }
def FnExactHouseRightWrongFalsely : Prop := fnExactHouseRightRow.holds Tryz.pinned (OpenSpec.ofChange fnExactHouseRightWrong)

/-- 'laws.FnExactHouseNew': WHATEVER THE INPUT: true; the input reads as it did. -/
def fnExactHouseNewSpec : ChangeSpec := { name := "fnExactHouseNew", fn := fun _ => fun
  | [d1, d2, d3, d4] => { results := [.lit (.bool true)], args := [d1, d2, d3, d4] }
  | _ => none }
def fnExactHouseNewRow : OpenClaim := { program := "ytglealihdkecpaagreat", sum := "099b4918f51763f8ec1f56d4a46e7e6e43c093c798a1e5374f2308fea46e1f9d", func := "loop.example/g00667/laws.FnExactHouseNew", spec := "fnExactHouseNew", unfollowed := true, recurses := true, plainKeys := false, apart := false }
def FnExactHouseNewSaid : Prop := fnExactHouseNewRow.holds Tryz.pinned (OpenSpec.ofChange fnExactHouseNewSpec)

/-- ITS FALSE NEIGHBOUR: 'it returns false'. Refute it at one input. -/
def fnExactHouseNewWrong : ChangeSpec := { name := "fnExactHouseNew", fn := fun _ => fun
  | [d1, d2, d3, d4] => { results := [.lit (.bool false)], args := [d1, d2, d3, d4] }
  | _ => none }
def FnExactHouseNewWrongFalsely : Prop := fnExactHouseNewRow.holds Tryz.pinned (OpenSpec.ofChange fnExactHouseNewWrong)

/-- 'laws.FnExactBestHeld': WHATEVER THE INPUT: true; the input reads as it did. -/
def fnExactBestHeldSpec : ChangeSpec := { name := "fnExactBestHeld", fn := fun _ => fun
  | [d1, d2, d3] => { results := [.lit (.bool true)], args := [d1, d2, d3] }
  | _ => none }
def fnExactBestHeldRow : OpenClaim := { program := "ytglealihdkecpaagreat", sum := "099b4918f51763f8ec1f56d4a46e7e6e43c093c798a1e5374f2308fea46e1f9d", func := "loop.example/g00667/laws.FnExactBestHeld", spec := "fnExactBestHeld", unfollowed := true, recurses := true, plainKeys := false, apart := false }
def FnExactBestHeldSaid : Prop := fnExactBestHeldRow.holds Tryz.pinned (OpenSpec.ofChange fnExactBestHeldSpec)

/-- ITS FALSE NEIGHBOUR: 'it returns false'. Refute it at one input. -/
def fnExactBestHeldWrong : ChangeSpec := { name := "fnExactBestHeld", fn := fun _ => fun
  | [d1, d2, d3] => { results := [.lit (.bool false)], args := [d1, d2, d3] }
  | _ => none }
def FnExactBestHeldWrongFalsely : Prop := fnExactBestHeldRow.holds Tryz.pinned (OpenSpec.ofChange fnExactBestHeldWrong)

/-- 'laws.FnExactPlaceOf': WHATEVER THE INPUT: true; the input reads as it did. -/
def fnExactPlaceOfSpec : ChangeSpec := { name := "fnExactPlaceOf", fn := fun _ => fun
  | [d1, d2, d3] => { results := [.lit (.bool true)], args := [d1, d2, d3] }
  | _ => none }
def fnExactPlaceOfRow : OpenClaim := { program := "ytglealihdkecpaagreat", sum := "099b4918f51763f8ec1f56d4a46e7e6e43c093c798a1e5374f2308fea46e1f9d", func := "loop.example/g00667/laws.FnExactPlaceOf", spec := "fnExactPlaceOf", unfollowed := true, recurses := true, plainKeys := false, apart := false }
def FnExactPlaceOfSaid : Prop := fnExactPlaceOfRow.holds Tryz.pinned (OpenSpec.ofChange fnExactPlaceOfSpec)

/-- ITS FALSE NEIGHBOUR: 'it returns false'. Refute it at one input. -/
def fnExactPlaceOfWrong : ChangeSpec := { name := "fnExactPlaceOf", fn := fun _ => fun
  | [d1, d2, d3] => { results := [.lit (.bool false)], args := [d1, d2, d3] }
  | _ => none }
def FnExactPlaceOfWrongFalsely : Prop := fnExactPlaceOfRow.holds Tryz.pinned (OpenSpec.ofChange fnExactPlaceOfWrong)

/-- 'laws.FnExactOwnRoutes': WHATEVER THE INPUT: true; the input reads as it did. -/
def fnExactOwnRoutesSpec : ChangeSpec := { name := "fnExactOwnRoutes", fn := fun _ => fun
  | [d] => { results := [.lit (.bool true)], args := [d] }
  | _ => none }
def fnExactOwnRoutesRow : OpenClaim := { program := "ytglealihdkecpaagreat", sum := "099b4918f51763f8ec1f56d4a46e7e6e43c093c798a1e5374f2308fea46e1f9d", func := "loop.example/g00667/laws.FnExactOwnRoutes", spec := "fnExactOwnRoutes", unfollowed := true, recurses := true, plainKeys := false, apart := false }
def FnExactOwnRoutesSaid : Prop := fnExactOwnRoutesRow.holds Tryz.pinned (OpenSpec.ofChange fnExactOwnRoutesSpec)

/-- ITS FALSE NEIGHBOUR: 'it returns false'. Refute it at one input. -/
def fnExactOwnRoutesWrong : ChangeSpec := { name := "fnExactOwnRoutes", fn := fun _ => fun
  | [d] => { results := [.lit (.bool false)], args := [d] }
  | _ => none }
def FnExactOwnRoutesWrongFalsely : Prop := fnExactOwnRoutesRow.holds Tryz.pinned (OpenSpec.ofChange fnExactOwnRoutesWrong)

/-- 'laws.FnExactWhoHas': WHATEVER THE INPUT: true; the input reads as it did. -/
def fnExactWhoHasSpec : ChangeSpec := { name := "fnExactWhoHas", fn := fun _ => fun
  | [d1, d2, d3] => { results := [.lit (.bool true)], args := [d1, d2, d3] }
  | _ => none }
def fnExactWhoHasRow : OpenClaim := { program := "ytglealihdkecpaagreat", sum := "099b4918f51763f8ec1f56d4a46e7e6e43c093c798a1e5374f2308fea46e1f9d", func := "loop.example/g00667/laws.FnExactWhoHas", spec := "fnExactWhoHas", unfollowed := true, recurses := true, plainKeys := false, apart := false }
def FnExactWhoHasSaid : Prop := fnExactWhoHasRow.holds Tryz.pinned (OpenSpec.ofChange fnExactWhoHasSpec)

/-- ITS FALSE NEIGHBOUR: 'it returns false'. Refute it at one input. -/
def fnExactWhoHasWrong : ChangeSpec := { name := "fnExactWhoHas", fn := fun _ => fun
  | [d1, d2, d3] => { results := [.lit (.bool false)], args := [d1, d2, d3] }
  | _ => none }
def FnExactWhoHasWrongFalsely : Prop := fnExactWhoHasRow.holds Tryz.pinned (OpenSpec.ofChange fnExactWhoHasWrong)

/- THE SECOND FORM. 'bulk': how many values and letters a reading holds, each counted each time it is reached (what is shared counts as often as it is met; a slice's spare places count too). A statement '..UptoSaid' is the law's where the arguments, and the package variables that the reading takes, are together of bulk at most 1048576: NARROWER than '..Said'. Prove '..Said' where nothing that the law and all that it calls make is longer than what came in: it says more and counts as full. Else prove '..UptoSaid'. A law counts once. -/
mutual
def uptoBulk {H : Type} : DataW H → Nat
  | .lit (.string bytes) => bytes.length + 1
  | .lit _ => 1
  | .nil => 1
  | .ptr d => uptoBulk d + 1
  | .slice elems spare => uptoBulkAll elems + uptoBulkAll spare + 1
  | .agg parts => uptoBulkAll parts + 1
  | .iface _ d => uptoBulk d + 1
  | .map entries => uptoBulkEntries entries + 1
  | .held _ => 1
def uptoBulkAll {H : Type} : List (DataW H) → Nat
  | [] => 0
  | d :: r => uptoBulk d + uptoBulkAll r
def uptoBulkEntries {H : Type} : List (Lit × DataW H) → Nat
  | [] => 0
  | x :: r => uptoBulkEntry x + uptoBulkEntries r
def uptoBulkEntry {H : Type} : Lit × DataW H → Nat
  | (.string bytes, d) => bytes.length + uptoBulk d + 1
  | (_, d) => uptoBulk d + 1
 end
def uptoSmall : (H : Type) → List (DataW H) → Bool := fun _ ds => decide (uptoBulkAll ds ≤ 1048576)
def OpenSpec.upto (s : _root_.Go.ChangeSpec) : _root_.Go.OpenSpec := { _root_.Go.OpenSpec.ofChange s with cond := some uptoSmall }

/-- 'laws.FnExactHouseRight', WHERE WHAT IT READS IS OF BULK AT MOST 1048576: true; the input reads as it did. -/
def fnExactHouseRightUptoRow : OpenClaim := { program := "ytglealihdkecpaagreat", sum := "099b4918f51763f8ec1f56d4a46e7e6e43c093c798a1e5374f2308fea46e1f9d", func := "loop.example/g00667/laws.FnExactHouseRight", spec := "fnExactHouseRight", unfollowed := true, recurses := true, plainKeys := false, apart := false, narrowed := true }
def FnExactHouseRightUptoSaid : Prop := fnExactHouseRightUptoRow.holds Tryz.pinned (OpenSpec.upto fnExactHouseRightSpec)

/-- 'laws.FnExactHouseNew', WHERE WHAT IT READS IS OF BULK AT MOST 1048576: true; the input reads as it did. -/
def fnExactHouseNewUptoRow : OpenClaim := { program := "ytglealihdkecpaagreat", sum := "099b4918f51763f8ec1f56d4a46e7e6e43c093c798a1e5374f2308fea46e1f9d", func := "loop.example/g00667/laws.FnExactHouseNew", spec := "fnExactHouseNew", unfollowed := true, recurses := true, plainKeys := false, apart := false, narrowed := true }
def FnExactHouseNewUptoSaid : Prop := fnExactHouseNewUptoRow.holds Tryz.pinned (OpenSpec.upto fnExactHouseNewSpec)

/-- 'laws.FnExactBestHeld', WHERE WHAT IT READS IS OF BULK AT MOST 1048576: true; the input reads as it did. -/
def fnExactBestHeldUptoRow : OpenClaim := { program := "ytglealihdkecpaagreat", sum := "099b4918f51763f8ec1f56d4a46e7e6e43c093c798a1e5374f2308fea46e1f9d", func := "loop.example/g00667/laws.FnExactBestHeld", spec := "fnExactBestHeld", unfollowed := true, recurses := true, plainKeys := false, apart := false, narrowed := true }
def FnExactBestHeldUptoSaid : Prop := fnExactBestHeldUptoRow.holds Tryz.pinned (OpenSpec.upto fnExactBestHeldSpec)

/-- 'laws.FnExactPlaceOf', WHERE WHAT IT READS IS OF BULK AT MOST 1048576: true; the input reads as it did. -/
def fnExactPlaceOfUptoRow : OpenClaim := { program := "ytglealihdkecpaagreat", sum := "099b4918f51763f8ec1f56d4a46e7e6e43c093c798a1e5374f2308fea46e1f9d", func := "loop.example/g00667/laws.FnExactPlaceOf", spec := "fnExactPlaceOf", unfollowed := true, recurses := true, plainKeys := false, apart := false, narrowed := true }
def FnExactPlaceOfUptoSaid : Prop := fnExactPlaceOfUptoRow.holds Tryz.pinned (OpenSpec.upto fnExactPlaceOfSpec)

/-- 'laws.FnExactOwnRoutes', WHERE WHAT IT READS IS OF BULK AT MOST 1048576: true; the input reads as it did. -/
def fnExactOwnRoutesUptoRow : OpenClaim := { program := "ytglealihdkecpaagreat", sum := "099b4918f51763f8ec1f56d4a46e7e6e43c093c798a1e5374f2308fea46e1f9d", func := "loop.example/g00667/laws.FnExactOwnRoutes", spec := "fnExactOwnRoutes", unfollowed := true, recurses := true, plainKeys := false, apart := false, narrowed := true }
def FnExactOwnRoutesUptoSaid : Prop := fnExactOwnRoutesUptoRow.holds Tryz.pinned (OpenSpec.upto fnExactOwnRoutesSpec)

/-- 'laws.FnExactWhoHas', WHERE WHAT IT READS IS OF BULK AT MOST 1048576: true; the input reads as it did. -/
def fnExactWhoHasUptoRow : OpenClaim := { program := "ytglealihdkecpaagreat", sum := "099b4918f51763f8ec1f56d4a46e7e6e43c093c798a1e5374f2308fea46e1f9d", func := "loop.example/g00667/laws.FnExactWhoHas", spec := "fnExactWhoHas", unfollowed := true, recurses := true, plainKeys := false, apart := false, narrowed := true }
def FnExactWhoHasUptoSaid : Prop := fnExactWhoHasUptoRow.holds Tryz.pinned (OpenSpec.upto fnExactWhoHasSpec)

end Rows
end Go.Proofs.YtglealihdkecpaaGreat
