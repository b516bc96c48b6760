/-
  DERIVED. GIVEN WITH THE SEED: THE CARDS: each row of YtodmikjpmcabiabDoorRows.lean that lists a variable, with what it lists TIED to the program's text (the seventh form; the later family's looks); each row that meets fmt, with fmt's text TOLD by the authors' own Lean function (tested against real Go, not proved from fmt's source: count such statements apart). THE CARD IS WHAT COUNTS. Prove the row's statement (the work); the ties are given (YtodmikjpmcabiabDoorTie.lean); close each card by the builder's one call (the guide's Derived/Test/ToyasCard.lean, 'card_holds'). Laid BY PROGRAM, IN A SANDBOX (cutbox-door.mjs). By AI agents, Wed Nov 11 2026. No macro, syntax, notation, axiom, sorry.
-/
import Derived.Test.YtodmikjpmcabiabDoorRows
import GoSem.ClaimSeven
namespace Go.Proofs.YtodmikjpmcabiabDoor
namespace Rows

/-- THE TIED CARD OF 'stockadelaw05.GraphNext'. -/
def graphNextCard : Claim7 := { stood := { row := graphNextRow, standIns := [], harness := (true, "ca30b34ebb266de57d34cfa4979833492a12dfbc9afa112a7e96d1b4a643cb98"), looks := true }, kinds := [], alts := [], laidByText := true, laidKinds := [.data], laidTests := true, laidLooks := .later }
def GraphNextCardSaid : Prop := Claim7.holds Tryd.pinned (.plain (OpenSpec.ofChange graphNextSpec)) graphNextCard

/-- THE TIED CARD OF 'stockadelaw05.GraphReached'. -/
def graphReachedCard : Claim7 := { stood := { row := graphReachedRow, standIns := [], harness := (true, "ca30b34ebb266de57d34cfa4979833492a12dfbc9afa112a7e96d1b4a643cb98"), looks := true }, kinds := [], alts := [], laidByText := true, laidKinds := [.data], laidTests := true, laidLooks := .later }
def GraphReachedCardSaid : Prop := Claim7.holds Tryd.pinned (.plain (OpenSpec.ofChange graphReachedSpec)) graphReachedCard

/-- THE TIED CARD OF 'stockadelaw05.GraphWays'. -/
def graphWaysCard : Claim7 := { stood := { row := graphWaysRow, standIns := [], harness := (true, "ca30b34ebb266de57d34cfa4979833492a12dfbc9afa112a7e96d1b4a643cb98"), looks := true }, kinds := [], alts := [], laidByText := true, laidKinds := [.data], laidTests := true, laidLooks := .later }
def GraphWaysCardSaid : Prop := Claim7.holds Tryd.pinned (.plain (OpenSpec.ofChange graphWaysSpec)) graphWaysCard

/-- THE TIED CARD OF 'stockadelaw05.GraphBlind'. -/
def graphBlindCard : Claim7 := { stood := { row := graphBlindRow, standIns := [], harness := (true, "ca30b34ebb266de57d34cfa4979833492a12dfbc9afa112a7e96d1b4a643cb98"), looks := true }, kinds := [], alts := [], laidByText := true, laidKinds := [.data], laidTests := true, laidLooks := .later }
def GraphBlindCardSaid : Prop := Claim7.holds Tryd.pinned (.plain (OpenSpec.ofChange graphBlindSpec)) graphBlindCard

/-- THE TIED CARD OF 'stockadelaw05.GraphOrders'. -/
def graphOrdersCard : Claim7 := { stood := { row := graphOrdersRow, standIns := [], harness := (true, "ca30b34ebb266de57d34cfa4979833492a12dfbc9afa112a7e96d1b4a643cb98"), looks := true }, kinds := [], alts := [], laidByText := true, laidKinds := [.data], laidTests := true, laidLooks := .later }
def GraphOrdersCardSaid : Prop := Claim7.holds Tryd.pinned (.plain (OpenSpec.ofChange graphOrdersSpec)) graphOrdersCard

/-- THE TIED CARD OF 'stockadelaw05.GraphLeast'. -/
def graphLeastCard : Claim7 := { stood := { row := graphLeastRow, standIns := [], harness := (true, "ca30b34ebb266de57d34cfa4979833492a12dfbc9afa112a7e96d1b4a643cb98"), looks := true }, kinds := [], alts := [], laidByText := true, laidKinds := [.data], laidTests := true, laidLooks := .later }
def GraphLeastCardSaid : Prop := Claim7.holds Tryd.pinned (.plain (OpenSpec.ofChange graphLeastSpec)) graphLeastCard

/-- THE SECOND FORM's CARD OF 'stockadelaw05.GraphNext'. -/
def graphNextUptoCard : Claim7 := { stood := { row := graphNextUptoRow, standIns := [], harness := (true, "ca30b34ebb266de57d34cfa4979833492a12dfbc9afa112a7e96d1b4a643cb98"), looks := true }, kinds := [], alts := [], laidByText := true, laidKinds := [.data], laidTests := true, laidLooks := .later }
def GraphNextUptoCardSaid : Prop := Claim7.holds Tryd.pinned (.plain (OpenSpec.upto graphNextSpec)) graphNextUptoCard

/-- THE SECOND FORM's CARD OF 'stockadelaw05.GraphReached'. -/
def graphReachedUptoCard : Claim7 := { stood := { row := graphReachedUptoRow, standIns := [], harness := (true, "ca30b34ebb266de57d34cfa4979833492a12dfbc9afa112a7e96d1b4a643cb98"), looks := true }, kinds := [], alts := [], laidByText := true, laidKinds := [.data], laidTests := true, laidLooks := .later }
def GraphReachedUptoCardSaid : Prop := Claim7.holds Tryd.pinned (.plain (OpenSpec.upto graphReachedSpec)) graphReachedUptoCard

/-- THE SECOND FORM's CARD OF 'stockadelaw05.GraphWays'. -/
def graphWaysUptoCard : Claim7 := { stood := { row := graphWaysUptoRow, standIns := [], harness := (true, "ca30b34ebb266de57d34cfa4979833492a12dfbc9afa112a7e96d1b4a643cb98"), looks := true }, kinds := [], alts := [], laidByText := true, laidKinds := [.data], laidTests := true, laidLooks := .later }
def GraphWaysUptoCardSaid : Prop := Claim7.holds Tryd.pinned (.plain (OpenSpec.upto graphWaysSpec)) graphWaysUptoCard

/-- THE SECOND FORM's CARD OF 'stockadelaw05.GraphBlind'. -/
def graphBlindUptoCard : Claim7 := { stood := { row := graphBlindUptoRow, standIns := [], harness := (true, "ca30b34ebb266de57d34cfa4979833492a12dfbc9afa112a7e96d1b4a643cb98"), looks := true }, kinds := [], alts := [], laidByText := true, laidKinds := [.data], laidTests := true, laidLooks := .later }
def GraphBlindUptoCardSaid : Prop := Claim7.holds Tryd.pinned (.plain (OpenSpec.upto graphBlindSpec)) graphBlindUptoCard

/-- THE SECOND FORM's CARD OF 'stockadelaw05.GraphOrders'. -/
def graphOrdersUptoCard : Claim7 := { stood := { row := graphOrdersUptoRow, standIns := [], harness := (true, "ca30b34ebb266de57d34cfa4979833492a12dfbc9afa112a7e96d1b4a643cb98"), looks := true }, kinds := [], alts := [], laidByText := true, laidKinds := [.data], laidTests := true, laidLooks := .later }
def GraphOrdersUptoCardSaid : Prop := Claim7.holds Tryd.pinned (.plain (OpenSpec.upto graphOrdersSpec)) graphOrdersUptoCard

/-- THE SECOND FORM's CARD OF 'stockadelaw05.GraphLeast'. -/
def graphLeastUptoCard : Claim7 := { stood := { row := graphLeastUptoRow, standIns := [], harness := (true, "ca30b34ebb266de57d34cfa4979833492a12dfbc9afa112a7e96d1b4a643cb98"), looks := true }, kinds := [], alts := [], laidByText := true, laidKinds := [.data], laidTests := true, laidLooks := .later }
def GraphLeastUptoCardSaid : Prop := Claim7.holds Tryd.pinned (.plain (OpenSpec.upto graphLeastSpec)) graphLeastUptoCard
end Rows
end Go.Proofs.YtodmikjpmcabiabDoor
