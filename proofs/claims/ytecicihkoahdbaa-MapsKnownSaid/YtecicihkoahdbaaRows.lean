/-
  No cell of these rows narrows 'for every input' (looked for: loops, veiled, ifaces, maps, wideKeys, modest, calm, conditions, laid).
  DERIVED. THE GIVEN ROWS OF THIS SEAT. 7 by the template 'for every input the law returns true; each argument reads behind the call as it read before'; 0 by the template 'total and deterministic' (their statements: YtecicihkoahdbaaTotals.lean).
  GIVEN WITH THE SEED: the statements are not yours to turn. If you find one false, say at which input.
  Laid BY PROGRAM, IN A SANDBOX (cutbox-rows.mjs): the forced cells as the released guide's own fill.sh prints them over the translation 181b37c1a3a690cd… (all of the seat's roots in one cut). By AI agents, Wed Nov 11 2026. No macro, syntax, notation, axiom, sorry.
-/
import Derived.Test.YtecicihkoahdbaaChecked
import GoSem.Claim
import GoSem.ClaimJoined
import GoSem.ClaimMapViews
import Derived.JoinedTies
import Derived.KernelRfl
namespace Go.Proofs.Ytecicihkoahdbaa
/- THE CELL 'sum', in the pinned program and in every row, IS THE sha256 OF THE DUMP (.gsa) THAT YtecicihkoahdbaaProg.lean LOADS. Nothing in Lean hashes anything: it is a label: what it is worth is what the hold of that sum in a sandbox is worth. -/
noncomputable def Try.pinned : Pinned := { name := "ytecicihkoahdbaa", sum := "181b37c1a3a690cd7b478b64db60c2663d3e78cefe3975bc76fb147e0021e28e", checked := Try.checked }
namespace Rows
def none {H : Type} : Left H := { results := [], args := [] }

/-- 'stockadelaw07.MapsNew': WHATEVER THE INPUT: true; the input reads as it did. -/
def mapsNewSpec : ChangeSpec := { name := "mapsNew", fn := fun _ => fun
  | [d] => { results := [.lit (.bool true)], args := [d] }
  | _ => none }
def mapsNewRow : OpenClaim := { program := "ytecicihkoahdbaa", sum := "181b37c1a3a690cd7b478b64db60c2663d3e78cefe3975bc76fb147e0021e28e", func := "stockade/stockadelaw07.MapsNew", spec := "mapsNew", inPlace := ["internal/bytealg.Compare"], unfollowed := true, recurses := true, apart := false }
def MapsNewSaid : Prop := mapsNewRow.holds Try.pinned (OpenSpec.ofChange mapsNewSpec)

/-- ITS FALSE NEIGHBOUR: 'it returns false'. Refute it at one input. -/
def mapsNewWrong : ChangeSpec := { name := "mapsNew", fn := fun _ => fun
  | [d] => { results := [.lit (.bool false)], args := [d] }
  | _ => none }
def MapsNewWrongFalsely : Prop := mapsNewRow.holds Try.pinned (OpenSpec.ofChange mapsNewWrong)

/-- 'stockadelaw07.MapsPlays': WHATEVER THE INPUT: true; the input reads as it did. -/
def mapsPlaysSpec : ChangeSpec := { name := "mapsPlays", fn := fun _ => fun
  | [d1, d2] => { results := [.lit (.bool true)], args := [d1, d2] }
  | _ => none }
def mapsPlaysRow : OpenClaim := { program := "ytecicihkoahdbaa", sum := "181b37c1a3a690cd7b478b64db60c2663d3e78cefe3975bc76fb147e0021e28e", func := "stockade/stockadelaw07.MapsPlays", spec := "mapsPlays", inPlace := ["internal/bytealg.Compare"], unfollowed := true, recurses := true, apart := false }
def MapsPlaysSaid : Prop := mapsPlaysRow.holds Try.pinned (OpenSpec.ofChange mapsPlaysSpec)

/-- ITS FALSE NEIGHBOUR: 'it returns false'. Refute it at one input. -/
def mapsPlaysWrong : ChangeSpec := { name := "mapsPlays", fn := fun _ => fun
  | [d1, d2] => { results := [.lit (.bool false)], args := [d1, d2] }
  | _ => none }
def MapsPlaysWrongFalsely : Prop := mapsPlaysRow.holds Try.pinned (OpenSpec.ofChange mapsPlaysWrong)

/-- 'stockadelaw07.MapsSame': WHATEVER THE INPUT: true; the input reads as it did. -/
def mapsSameSpec : ChangeSpec := { name := "mapsSame", fn := fun _ => fun
  | [d1, d2, d3, d4] => { results := [.lit (.bool true)], args := [d1, d2, d3, d4] }
  | _ => none }
def mapsSameRow : OpenClaim := { program := "ytecicihkoahdbaa", sum := "181b37c1a3a690cd7b478b64db60c2663d3e78cefe3975bc76fb147e0021e28e", func := "stockade/stockadelaw07.MapsSame", spec := "mapsSame", inPlace := ["internal/bytealg.Compare"], unfollowed := true, recurses := true, apart := false }
def MapsSameSaid : Prop := mapsSameRow.holds Try.pinned (OpenSpec.ofChange mapsSameSpec)

/-- ITS FALSE NEIGHBOUR: 'it returns false'. Refute it at one input. -/
def mapsSameWrong : ChangeSpec := { name := "mapsSame", fn := fun _ => fun
  | [d1, d2, d3, d4] => { results := [.lit (.bool false)], args := [d1, d2, d3, d4] }
  | _ => none }
def MapsSameWrongFalsely : Prop := mapsSameRow.holds Try.pinned (OpenSpec.ofChange mapsSameWrong)

/-- 'stockadelaw07.MapsForget': WHATEVER THE INPUT: true; the input reads as it did. -/
def mapsForgetSpec : ChangeSpec := { name := "mapsForget", fn := fun _ => fun
  | [d1, d2] => { results := [.lit (.bool true)], args := [d1, d2] }
  | _ => none }
def mapsForgetRow : OpenClaim := { program := "ytecicihkoahdbaa", sum := "181b37c1a3a690cd7b478b64db60c2663d3e78cefe3975bc76fb147e0021e28e", func := "stockade/stockadelaw07.MapsForget", spec := "mapsForget", inPlace := ["internal/bytealg.Compare"], unfollowed := true, recurses := true, apart := false }
def MapsForgetSaid : Prop := mapsForgetRow.holds Try.pinned (OpenSpec.ofChange mapsForgetSpec)

/-- ITS FALSE NEIGHBOUR: 'it returns false'. Refute it at one input. -/
def mapsForgetWrong : ChangeSpec := { name := "mapsForget", fn := fun _ => fun
  | [d1, d2] => { results := [.lit (.bool false)], args := [d1, d2] }
  | _ => none }
def MapsForgetWrongFalsely : Prop := mapsForgetRow.holds Try.pinned (OpenSpec.ofChange mapsForgetWrong)

/-- 'stockadelaw07.MapsCells': WHATEVER THE INPUT: true; the input reads as it did. -/
def mapsCellsSpec : ChangeSpec := { name := "mapsCells", fn := fun _ => fun
  | [d] => { results := [.lit (.bool true)], args := [d] }
  | _ => none }
def mapsCellsRow : OpenClaim := { program := "ytecicihkoahdbaa", sum := "181b37c1a3a690cd7b478b64db60c2663d3e78cefe3975bc76fb147e0021e28e", func := "stockade/stockadelaw07.MapsCells", spec := "mapsCells", apart := false }
def MapsCellsSaid : Prop := mapsCellsRow.holds Try.pinned (OpenSpec.ofChange mapsCellsSpec)

/-- ITS FALSE NEIGHBOUR: 'it returns false'. Refute it at one input. -/
def mapsCellsWrong : ChangeSpec := { name := "mapsCells", fn := fun _ => fun
  | [d] => { results := [.lit (.bool false)], args := [d] }
  | _ => none }
def MapsCellsWrongFalsely : Prop := mapsCellsRow.holds Try.pinned (OpenSpec.ofChange mapsCellsWrong)

/-- 'stockadelaw07.MapsArray': WHATEVER THE INPUT: true; the input reads as it did. -/
def mapsArraySpec : ChangeSpec := { name := "mapsArray", fn := fun _ => fun
  | [d1, d2] => { results := [.lit (.bool true)], args := [d1, d2] }
  | _ => none }
def mapsArrayRow : OpenClaim := { program := "ytecicihkoahdbaa", sum := "181b37c1a3a690cd7b478b64db60c2663d3e78cefe3975bc76fb147e0021e28e", func := "stockade/stockadelaw07.MapsArray", spec := "mapsArray", inPlace := ["internal/bytealg.Compare"], unfollowed := true, recurses := true, apart := false }
def MapsArraySaid : Prop := mapsArrayRow.holds Try.pinned (OpenSpec.ofChange mapsArraySpec)

/-- ITS FALSE NEIGHBOUR: 'it returns false'. Refute it at one input. -/
def mapsArrayWrong : ChangeSpec := { name := "mapsArray", fn := fun _ => fun
  | [d1, d2] => { results := [.lit (.bool false)], args := [d1, d2] }
  | _ => none }
def MapsArrayWrongFalsely : Prop := mapsArrayRow.holds Try.pinned (OpenSpec.ofChange mapsArrayWrong)

/-- 'stockadelaw07.MapsKnown': WHATEVER THE INPUT: true; the input reads as it did. -/
def mapsKnownSpec : ChangeSpec := { name := "mapsKnown", fn := fun _ => fun
  | [] => { results := [.lit (.bool true)], args := [] }
  | _ => none }
def mapsKnownRow : OpenClaim := { program := "ytecicihkoahdbaa", sum := "181b37c1a3a690cd7b478b64db60c2663d3e78cefe3975bc76fb147e0021e28e", func := "stockade/stockadelaw07.MapsKnown", spec := "mapsKnown", inPlace := ["internal/bytealg.Compare"], unfollowed := true, recurses := true, apart := false }
def MapsKnownSaid : Prop := mapsKnownRow.holds Try.pinned (OpenSpec.ofChange mapsKnownSpec)

/-- ITS FALSE NEIGHBOUR: 'it returns false'. Refute it at one input. -/
def mapsKnownWrong : ChangeSpec := { name := "mapsKnown", fn := fun _ => fun
  | [] => { results := [.lit (.bool false)], args := [] }
  | _ => none }
def MapsKnownWrongFalsely : Prop := mapsKnownRow.holds Try.pinned (OpenSpec.ofChange mapsKnownWrong)

/- THE SECOND FORM. 'bulk': how many values and letters a reading holds, each counted each time it is reached (what is shared counts as often as it is met; a slice's spare places count too). A statement '..UptoSaid' is the law's where the arguments, and the package variables that the reading takes, are together of bulk at most 1048576: NARROWER than '..Said'. Prove '..Said' where nothing that the law and all that it calls make is longer than what came in: it says more and counts as full. Else prove '..UptoSaid'. A law counts once. -/
mutual
def uptoBulk {H : Type} : DataW H → Nat
  | .lit (.string bytes) => bytes.length + 1
  | .lit _ => 1
  | .nil => 1
  | .ptr d => uptoBulk d + 1
  | .slice elems spare => uptoBulkAll elems + uptoBulkAll spare + 1
  | .agg parts => uptoBulkAll parts + 1
  | .iface _ d => uptoBulk d + 1
  | .map entries => uptoBulkEntries entries + 1
  | .held _ => 1
def uptoBulkAll {H : Type} : List (DataW H) → Nat
  | [] => 0
  | d :: r => uptoBulk d + uptoBulkAll r
def uptoBulkEntries {H : Type} : List (Lit × DataW H) → Nat
  | [] => 0
  | x :: r => uptoBulkEntry x + uptoBulkEntries r
def uptoBulkEntry {H : Type} : Lit × DataW H → Nat
  | (.string bytes, d) => bytes.length + uptoBulk d + 1
  | (_, d) => uptoBulk d + 1
 end
def uptoSmall : (H : Type) → List (DataW H) → Bool := fun _ ds => decide (uptoBulkAll ds ≤ 1048576)
def OpenSpec.upto (s : _root_.Go.ChangeSpec) : _root_.Go.OpenSpec := { _root_.Go.OpenSpec.ofChange s with cond := some uptoSmall }

/-- 'stockadelaw07.MapsNew', WHERE WHAT IT READS IS OF BULK AT MOST 1048576: true; the input reads as it did. -/
def mapsNewUptoRow : OpenClaim := { program := "ytecicihkoahdbaa", sum := "181b37c1a3a690cd7b478b64db60c2663d3e78cefe3975bc76fb147e0021e28e", func := "stockade/stockadelaw07.MapsNew", spec := "mapsNew", inPlace := ["internal/bytealg.Compare"], unfollowed := true, recurses := true, apart := false, narrowed := true }
def MapsNewUptoSaid : Prop := mapsNewUptoRow.holds Try.pinned (OpenSpec.upto mapsNewSpec)

/-- 'stockadelaw07.MapsPlays', WHERE WHAT IT READS IS OF BULK AT MOST 1048576: true; the input reads as it did. -/
def mapsPlaysUptoRow : OpenClaim := { program := "ytecicihkoahdbaa", sum := "181b37c1a3a690cd7b478b64db60c2663d3e78cefe3975bc76fb147e0021e28e", func := "stockade/stockadelaw07.MapsPlays", spec := "mapsPlays", inPlace := ["internal/bytealg.Compare"], unfollowed := true, recurses := true, apart := false, narrowed := true }
def MapsPlaysUptoSaid : Prop := mapsPlaysUptoRow.holds Try.pinned (OpenSpec.upto mapsPlaysSpec)

/-- 'stockadelaw07.MapsSame', WHERE WHAT IT READS IS OF BULK AT MOST 1048576: true; the input reads as it did. -/
def mapsSameUptoRow : OpenClaim := { program := "ytecicihkoahdbaa", sum := "181b37c1a3a690cd7b478b64db60c2663d3e78cefe3975bc76fb147e0021e28e", func := "stockade/stockadelaw07.MapsSame", spec := "mapsSame", inPlace := ["internal/bytealg.Compare"], unfollowed := true, recurses := true, apart := false, narrowed := true }
def MapsSameUptoSaid : Prop := mapsSameUptoRow.holds Try.pinned (OpenSpec.upto mapsSameSpec)

/-- 'stockadelaw07.MapsForget', WHERE WHAT IT READS IS OF BULK AT MOST 1048576: true; the input reads as it did. -/
def mapsForgetUptoRow : OpenClaim := { program := "ytecicihkoahdbaa", sum := "181b37c1a3a690cd7b478b64db60c2663d3e78cefe3975bc76fb147e0021e28e", func := "stockade/stockadelaw07.MapsForget", spec := "mapsForget", inPlace := ["internal/bytealg.Compare"], unfollowed := true, recurses := true, apart := false, narrowed := true }
def MapsForgetUptoSaid : Prop := mapsForgetUptoRow.holds Try.pinned (OpenSpec.upto mapsForgetSpec)

/-- 'stockadelaw07.MapsCells', WHERE WHAT IT READS IS OF BULK AT MOST 1048576: true; the input reads as it did. -/
def mapsCellsUptoRow : OpenClaim := { program := "ytecicihkoahdbaa", sum := "181b37c1a3a690cd7b478b64db60c2663d3e78cefe3975bc76fb147e0021e28e", func := "stockade/stockadelaw07.MapsCells", spec := "mapsCells", apart := false, narrowed := true }
def MapsCellsUptoSaid : Prop := mapsCellsUptoRow.holds Try.pinned (OpenSpec.upto mapsCellsSpec)

/-- 'stockadelaw07.MapsArray', WHERE WHAT IT READS IS OF BULK AT MOST 1048576: true; the input reads as it did. -/
def mapsArrayUptoRow : OpenClaim := { program := "ytecicihkoahdbaa", sum := "181b37c1a3a690cd7b478b64db60c2663d3e78cefe3975bc76fb147e0021e28e", func := "stockade/stockadelaw07.MapsArray", spec := "mapsArray", inPlace := ["internal/bytealg.Compare"], unfollowed := true, recurses := true, apart := false, narrowed := true }
def MapsArrayUptoSaid : Prop := mapsArrayUptoRow.holds Try.pinned (OpenSpec.upto mapsArraySpec)

/-- 'stockadelaw07.MapsKnown', WHERE WHAT IT READS IS OF BULK AT MOST 1048576: true; the input reads as it did. -/
def mapsKnownUptoRow : OpenClaim := { program := "ytecicihkoahdbaa", sum := "181b37c1a3a690cd7b478b64db60c2663d3e78cefe3975bc76fb147e0021e28e", func := "stockade/stockadelaw07.MapsKnown", spec := "mapsKnown", inPlace := ["internal/bytealg.Compare"], unfollowed := true, recurses := true, apart := false, narrowed := true }
def MapsKnownUptoSaid : Prop := mapsKnownUptoRow.holds Try.pinned (OpenSpec.upto mapsKnownSpec)

end Rows
end Go.Proofs.Ytecicihkoahdbaa
