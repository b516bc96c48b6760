/-
  DERIVED. GIVEN WITH THE SEED: THE CARDS: each row of YtkapbeipjjcalaaDoorRows.lean that lists a variable, with what it lists TIED to the program's text (the seventh form; the later family's looks); each row that meets fmt, with fmt's text TOLD by the authors' own Lean function (tested against real Go, not proved from fmt's source: count such statements apart). THE CARD IS WHAT COUNTS. Prove the row's statement (the work); the ties are given (YtkapbeipjjcalaaDoorTie.lean); close each card by the builder's one call (the guide's Derived/Test/ToyasCard.lean, 'card_holds'). Laid BY PROGRAM, IN A SANDBOX (cutbox-door.mjs). By AI agents, Wed Nov 11 2026. No macro, syntax, notation, axiom, sorry.
-/
import Derived.Test.YtkapbeipjjcalaaDoorRows
import GoSem.ClaimSeven
namespace Go.Proofs.YtkapbeipjjcalaaDoor
namespace Rows

/-- THE TIED CARD OF 'stockadelaw02.InsnUses'. -/
def insnUsesCard : Claim7 := { stood := { row := insnUsesRow, standIns := [], harness := (true, "b96e38998bdb2f80242779ca57705abbf1563cfcc3a3b5d1cc57b14dd86342ad"), looks := false }, kinds := [], alts := [], laidByText := true, laidKinds := [.data], laidTests := true, laidLooks := .later }
def InsnUsesCardSaid : Prop := Claim7.holds Tryd.pinned (.plain (OpenSpec.ofChange insnUsesSpec)) insnUsesCard

/-- THE TIED CARD OF 'stockadelaw02.InsnNear'. -/
def insnNearCard : Claim7 := { stood := { row := insnNearRow, standIns := [], harness := (true, "b96e38998bdb2f80242779ca57705abbf1563cfcc3a3b5d1cc57b14dd86342ad"), looks := false }, kinds := [], alts := [], laidByText := true, laidKinds := [.data], laidTests := true, laidLooks := .later }
def InsnNearCardSaid : Prop := Claim7.holds Tryd.pinned (.plain (OpenSpec.ofChange insnNearSpec)) insnNearCard

/-- THE TIED CARD OF 'stockadelaw02.InsnKnown'. -/
def insnKnownCard : Claim7 := { stood := { row := insnKnownRow, standIns := [], harness := (true, "b96e38998bdb2f80242779ca57705abbf1563cfcc3a3b5d1cc57b14dd86342ad"), looks := false }, kinds := [], alts := [], laidByText := true, laidKinds := [.data], laidTests := true, laidLooks := .later }
def InsnKnownCardSaid : Prop := Claim7.holds Tryd.pinned (.plain (OpenSpec.ofChange insnKnownSpec)) insnKnownCard

/-- THE SECOND FORM's CARD OF 'stockadelaw02.InsnUses'. -/
def insnUsesUptoCard : Claim7 := { stood := { row := insnUsesUptoRow, standIns := [], harness := (true, "b96e38998bdb2f80242779ca57705abbf1563cfcc3a3b5d1cc57b14dd86342ad"), looks := false }, kinds := [], alts := [], laidByText := true, laidKinds := [.data], laidTests := true, laidLooks := .later }
def InsnUsesUptoCardSaid : Prop := Claim7.holds Tryd.pinned (.plain (OpenSpec.upto insnUsesSpec)) insnUsesUptoCard

/-- THE SECOND FORM's CARD OF 'stockadelaw02.InsnNear'. -/
def insnNearUptoCard : Claim7 := { stood := { row := insnNearUptoRow, standIns := [], harness := (true, "b96e38998bdb2f80242779ca57705abbf1563cfcc3a3b5d1cc57b14dd86342ad"), looks := false }, kinds := [], alts := [], laidByText := true, laidKinds := [.data], laidTests := true, laidLooks := .later }
def InsnNearUptoCardSaid : Prop := Claim7.holds Tryd.pinned (.plain (OpenSpec.upto insnNearSpec)) insnNearUptoCard

/-- THE SECOND FORM's CARD OF 'stockadelaw02.InsnKnown'. -/
def insnKnownUptoCard : Claim7 := { stood := { row := insnKnownUptoRow, standIns := [], harness := (true, "b96e38998bdb2f80242779ca57705abbf1563cfcc3a3b5d1cc57b14dd86342ad"), looks := false }, kinds := [], alts := [], laidByText := true, laidKinds := [.data], laidTests := true, laidLooks := .later }
def InsnKnownUptoCardSaid : Prop := Claim7.holds Tryd.pinned (.plain (OpenSpec.upto insnKnownSpec)) insnKnownUptoCard
end Rows
end Go.Proofs.YtkapbeipjjcalaaDoor
