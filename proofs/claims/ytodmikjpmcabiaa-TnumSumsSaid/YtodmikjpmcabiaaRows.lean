/-
  No cell of these rows narrows 'for every input' (looked for: loops, veiled, ifaces, maps, wideKeys, modest, calm, conditions, laid).
  DERIVED. THE GIVEN ROWS OF THIS SEAT. 4 by the template 'for every input the law returns true; each argument reads behind the call as it read before'; 0 by the template 'total and deterministic' (their statements: YtodmikjpmcabiaaTotals.lean).
  GIVEN WITH THE SEED: the statements are not yours to turn. If you find one false, say at which input.
  Laid BY PROGRAM, IN A SANDBOX (cutbox-rows.mjs): the forced cells as the released guide's own fill.sh prints them over the translation 76e1c6d738790eca… (all of the seat's roots in one cut). By AI agents, Wed Nov 11 2026. No macro, syntax, notation, axiom, sorry.
-/
import Derived.Test.YtodmikjpmcabiaaChecked
import GoSem.Claim
import GoSem.ClaimJoined
import GoSem.ClaimMapViews
import Derived.JoinedTies
import Derived.KernelRfl
namespace Go.Proofs.Ytodmikjpmcabiaa
/- THE CELL 'sum', in the pinned program and in every row, IS THE sha256 OF THE DUMP (.gsa) THAT YtodmikjpmcabiaaProg.lean LOADS. Nothing in Lean hashes anything: it is a label: what it is worth is what the hold of that sum in a sandbox is worth. -/
noncomputable def Try.pinned : Pinned := { name := "ytodmikjpmcabiaa", sum := "76e1c6d738790ecab6ac0ceffe5d0a6467e92718d7843583321ea073a37b5ace", checked := Try.checked }
namespace Rows
def none {H : Type} : Left H := { results := [], args := [] }

/-- 'stockadelaw12.StateJoin': WHATEVER THE INPUT: true; the input reads as it did. -/
def stateJoinSpec : ChangeSpec := { name := "stateJoin", fn := fun _ => fun
  | [d1, d2] => { results := [.lit (.bool true)], args := [d1, d2] }
  | _ => none }
def stateJoinRow : OpenClaim := { program := "ytodmikjpmcabiaa", sum := "76e1c6d738790ecab6ac0ceffe5d0a6467e92718d7843583321ea073a37b5ace", func := "stockade/stockadelaw12.StateJoin", spec := "stateJoin", unfollowed := true, recurses := true, apart := false }
def StateJoinSaid : Prop := stateJoinRow.holds Try.pinned (OpenSpec.ofChange stateJoinSpec)

/-- ITS FALSE NEIGHBOUR: 'it returns false'. Refute it at one input. -/
def stateJoinWrong : ChangeSpec := { name := "stateJoin", fn := fun _ => fun
  | [d1, d2] => { results := [.lit (.bool false)], args := [d1, d2] }
  | _ => none }
def StateJoinWrongFalsely : Prop := stateJoinRow.holds Try.pinned (OpenSpec.ofChange stateJoinWrong)

/-- 'stockadelaw10.SpanAlu': WHATEVER THE INPUT: true; the input reads as it did. -/
def spanAluSpec : ChangeSpec := { name := "spanAlu", fn := fun _ => fun
  | [d1, d2, d3] => { results := [.lit (.bool true)], args := [d1, d2, d3] }
  | _ => none }
def spanAluRow : OpenClaim := { program := "ytodmikjpmcabiaa", sum := "76e1c6d738790ecab6ac0ceffe5d0a6467e92718d7843583321ea073a37b5ace", func := "stockade/stockadelaw10.SpanAlu", spec := "spanAlu", inPlace := ["math/bits.Add64"], unfollowed := true, recurses := true, apart := false }
def SpanAluSaid : Prop := spanAluRow.holds Try.pinned (OpenSpec.ofChange spanAluSpec)

/-- ITS FALSE NEIGHBOUR: 'it returns false'. Refute it at one input. -/
def spanAluWrong : ChangeSpec := { name := "spanAlu", fn := fun _ => fun
  | [d1, d2, d3] => { results := [.lit (.bool false)], args := [d1, d2, d3] }
  | _ => none }
def SpanAluWrongFalsely : Prop := spanAluRow.holds Try.pinned (OpenSpec.ofChange spanAluWrong)

/-- 'stockadelaw09.TnumSums': WHATEVER THE INPUT: true; the input reads as it did. -/
def tnumSumsSpec : ChangeSpec := { name := "tnumSums", fn := fun _ => fun
  | [d1, d2] => { results := [.lit (.bool true)], args := [d1, d2] }
  | _ => none }
def tnumSumsRow : OpenClaim := { program := "ytodmikjpmcabiaa", sum := "76e1c6d738790ecab6ac0ceffe5d0a6467e92718d7843583321ea073a37b5ace", func := "stockade/stockadelaw09.TnumSums", spec := "tnumSums", unfollowed := true, recurses := true, apart := false }
def TnumSumsSaid : Prop := tnumSumsRow.holds Try.pinned (OpenSpec.ofChange tnumSumsSpec)

/-- ITS FALSE NEIGHBOUR: 'it returns false'. Refute it at one input. -/
def tnumSumsWrong : ChangeSpec := { name := "tnumSums", fn := fun _ => fun
  | [d1, d2] => { results := [.lit (.bool false)], args := [d1, d2] }
  | _ => none }
def TnumSumsWrongFalsely : Prop := tnumSumsRow.holds Try.pinned (OpenSpec.ofChange tnumSumsWrong)

/-- 'stockadelaw09.TnumBest': WHATEVER THE INPUT: true; the input reads as it did. -/
def tnumBestSpec : ChangeSpec := { name := "tnumBest", fn := fun _ => fun
  | [d1, d2] => { results := [.lit (.bool true)], args := [d1, d2] }
  | _ => none }
def tnumBestRow : OpenClaim := { program := "ytodmikjpmcabiaa", sum := "76e1c6d738790ecab6ac0ceffe5d0a6467e92718d7843583321ea073a37b5ace", func := "stockade/stockadelaw09.TnumBest", spec := "tnumBest", unfollowed := true, recurses := true, apart := false }
def TnumBestSaid : Prop := tnumBestRow.holds Try.pinned (OpenSpec.ofChange tnumBestSpec)

/-- ITS FALSE NEIGHBOUR: 'it returns false'. Refute it at one input. -/
def tnumBestWrong : ChangeSpec := { name := "tnumBest", fn := fun _ => fun
  | [d1, d2] => { results := [.lit (.bool false)], args := [d1, d2] }
  | _ => none }
def TnumBestWrongFalsely : Prop := tnumBestRow.holds Try.pinned (OpenSpec.ofChange tnumBestWrong)

/- THE SECOND FORM. 'bulk': how many values and letters a reading holds, each counted each time it is reached (what is shared counts as often as it is met; a slice's spare places count too). A statement '..UptoSaid' is the law's where the arguments, and the package variables that the reading takes, are together of bulk at most 1048576: NARROWER than '..Said'. Prove '..Said' where nothing that the law and all that it calls make is longer than what came in: it says more and counts as full. Else prove '..UptoSaid'. A law counts once. -/
mutual
def uptoBulk {H : Type} : DataW H → Nat
  | .lit (.string bytes) => bytes.length + 1
  | .lit _ => 1
  | .nil => 1
  | .ptr d => uptoBulk d + 1
  | .slice elems spare => uptoBulkAll elems + uptoBulkAll spare + 1
  | .agg parts => uptoBulkAll parts + 1
  | .iface _ d => uptoBulk d + 1
  | .map entries => uptoBulkEntries entries + 1
  | .held _ => 1
def uptoBulkAll {H : Type} : List (DataW H) → Nat
  | [] => 0
  | d :: r => uptoBulk d + uptoBulkAll r
def uptoBulkEntries {H : Type} : List (Lit × DataW H) → Nat
  | [] => 0
  | x :: r => uptoBulkEntry x + uptoBulkEntries r
def uptoBulkEntry {H : Type} : Lit × DataW H → Nat
  | (.string bytes, d) => bytes.length + uptoBulk d + 1
  | (_, d) => uptoBulk d + 1
 end
def uptoSmall : (H : Type) → List (DataW H) → Bool := fun _ ds => decide (uptoBulkAll ds ≤ 1048576)
def OpenSpec.upto (s : _root_.Go.ChangeSpec) : _root_.Go.OpenSpec := { _root_.Go.OpenSpec.ofChange s with cond := some uptoSmall }

/-- 'stockadelaw12.StateJoin', WHERE WHAT IT READS IS OF BULK AT MOST 1048576: true; the input reads as it did. -/
def stateJoinUptoRow : OpenClaim := { program := "ytodmikjpmcabiaa", sum := "76e1c6d738790ecab6ac0ceffe5d0a6467e92718d7843583321ea073a37b5ace", func := "stockade/stockadelaw12.StateJoin", spec := "stateJoin", unfollowed := true, recurses := true, apart := false, narrowed := true }
def StateJoinUptoSaid : Prop := stateJoinUptoRow.holds Try.pinned (OpenSpec.upto stateJoinSpec)

/-- 'stockadelaw10.SpanAlu', WHERE WHAT IT READS IS OF BULK AT MOST 1048576: true; the input reads as it did. -/
def spanAluUptoRow : OpenClaim := { program := "ytodmikjpmcabiaa", sum := "76e1c6d738790ecab6ac0ceffe5d0a6467e92718d7843583321ea073a37b5ace", func := "stockade/stockadelaw10.SpanAlu", spec := "spanAlu", inPlace := ["math/bits.Add64"], unfollowed := true, recurses := true, apart := false, narrowed := true }
def SpanAluUptoSaid : Prop := spanAluUptoRow.holds Try.pinned (OpenSpec.upto spanAluSpec)

/-- 'stockadelaw09.TnumSums', WHERE WHAT IT READS IS OF BULK AT MOST 1048576: true; the input reads as it did. -/
def tnumSumsUptoRow : OpenClaim := { program := "ytodmikjpmcabiaa", sum := "76e1c6d738790ecab6ac0ceffe5d0a6467e92718d7843583321ea073a37b5ace", func := "stockade/stockadelaw09.TnumSums", spec := "tnumSums", unfollowed := true, recurses := true, apart := false, narrowed := true }
def TnumSumsUptoSaid : Prop := tnumSumsUptoRow.holds Try.pinned (OpenSpec.upto tnumSumsSpec)

/-- 'stockadelaw09.TnumBest', WHERE WHAT IT READS IS OF BULK AT MOST 1048576: true; the input reads as it did. -/
def tnumBestUptoRow : OpenClaim := { program := "ytodmikjpmcabiaa", sum := "76e1c6d738790ecab6ac0ceffe5d0a6467e92718d7843583321ea073a37b5ace", func := "stockade/stockadelaw09.TnumBest", spec := "tnumBest", unfollowed := true, recurses := true, apart := false, narrowed := true }
def TnumBestUptoSaid : Prop := tnumBestUptoRow.holds Try.pinned (OpenSpec.upto tnumBestSpec)

end Rows
end Go.Proofs.Ytodmikjpmcabiaa
