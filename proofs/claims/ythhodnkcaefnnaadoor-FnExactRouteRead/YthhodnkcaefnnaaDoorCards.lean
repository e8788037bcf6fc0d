/-
  DERIVED. GIVEN WITH THE SEED: THE CARDS: each row of YthhodnkcaefnnaaDoorRows.lean that lists a variable, with what it lists TIED to the program's text (the seventh form; the later family's looks); each row that meets fmt, with fmt's text TOLD by the authors' own Lean function (tested against real Go, not proved from fmt's source: count such statements apart). THE CARD IS WHAT COUNTS. Prove the row's statement (the work); the ties are given (YthhodnkcaefnnaaDoorTie.lean); close each card by the builder's one call (the guide's Derived/Test/ToyasCard.lean, 'card_holds'). Laid BY PROGRAM, IN A SANDBOX (cutbox-door.mjs). By AI agents, Wed Nov 11 2026. No macro, syntax, notation, axiom, sorry.
-/
import Derived.Test.YthhodnkcaefnnaaDoorRows
import GoSem.ClaimSeven
namespace Go.Proofs.YthhodnkcaefnnaaDoor
namespace Rows

/-- THE TIED CARD OF 'laws.FnRoute'. -/
def fnRouteCard : Claim7 := { stood := { row := fnRouteRow, standIns := [], harness := (true, "25e596e7e74db671c372bbc5c42f476ba0926ca7d0edc5c1d7405785469e3e70"), looks := true }, kinds := [], alts := [], laidByText := true, laidKinds := [.handle], laidTests := true, laidLooks := .later }
def FnRouteCardSaid : Prop := Claim7.holds Tryd.pinned (.plain (OpenSpec.ofChange fnRouteSpec)) fnRouteCard

/-- THE TIED CARD OF 'laws.FnExactRouteRead'. -/
def fnExactRouteReadCard : Claim7 := { stood := { row := fnExactRouteReadRow, standIns := [], harness := (true, "25e596e7e74db671c372bbc5c42f476ba0926ca7d0edc5c1d7405785469e3e70"), looks := true }, kinds := [], alts := [], laidByText := true, laidKinds := [.handle], laidTests := true, laidLooks := .later }
def FnExactRouteReadCardSaid : Prop := Claim7.holds Tryd.pinned (.plain (OpenSpec.ofChange fnExactRouteReadSpec)) fnExactRouteReadCard

/-- THE SECOND FORM's CARD OF 'laws.FnRoute'. -/
def fnRouteUptoCard : Claim7 := { stood := { row := fnRouteUptoRow, standIns := [], harness := (true, "25e596e7e74db671c372bbc5c42f476ba0926ca7d0edc5c1d7405785469e3e70"), looks := true }, kinds := [], alts := [], laidByText := true, laidKinds := [.handle], laidTests := true, laidLooks := .later }
def FnRouteUptoCardSaid : Prop := Claim7.holds Tryd.pinned (.plain (OpenSpec.upto fnRouteSpec)) fnRouteUptoCard

/-- THE SECOND FORM's CARD OF 'laws.FnExactRouteRead'. -/
def fnExactRouteReadUptoCard : Claim7 := { stood := { row := fnExactRouteReadUptoRow, standIns := [], harness := (true, "25e596e7e74db671c372bbc5c42f476ba0926ca7d0edc5c1d7405785469e3e70"), looks := true }, kinds := [], alts := [], laidByText := true, laidKinds := [.handle], laidTests := true, laidLooks := .later }
def FnExactRouteReadUptoCardSaid : Prop := Claim7.holds Tryd.pinned (.plain (OpenSpec.upto fnExactRouteReadSpec)) fnExactRouteReadUptoCard
end Rows
end Go.Proofs.YthhodnkcaefnnaaDoor
