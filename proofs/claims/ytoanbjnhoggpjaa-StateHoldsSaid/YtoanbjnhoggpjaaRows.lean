/-
  No cell of these rows narrows 'for every input' (looked for: loops, veiled, ifaces, maps, wideKeys, modest, calm, conditions, laid).
  DERIVED. THE GIVEN ROWS OF THIS SEAT. 12 by the template 'for every input the law returns true; each argument reads behind the call as it read before'; 0 by the template 'total and deterministic' (their statements: YtoanbjnhoggpjaaTotals.lean).
  GIVEN WITH THE SEED: the statements are not yours to turn. If you find one false, say at which input.
  Laid BY PROGRAM, IN A SANDBOX (cutbox-rows.mjs): the forced cells as the released guide's own fill.sh prints them over the translation 53d9d197407ddbce… (all of the seat's roots in one cut). By AI agents, Wed Nov 11 2026. No macro, syntax, notation, axiom, sorry.
-/
import Derived.Test.YtoanbjnhoggpjaaChecked
import GoSem.Claim
import GoSem.ClaimJoined
import GoSem.ClaimMapViews
import Derived.JoinedTies
import Derived.KernelRfl
namespace Go.Proofs.Ytoanbjnhoggpjaa
/- THE CELL 'sum', in the pinned program and in every row, IS THE sha256 OF THE DUMP (.gsa) THAT YtoanbjnhoggpjaaProg.lean LOADS. Nothing in Lean hashes anything: it is a label: what it is worth is what the hold of that sum in a sandbox is worth. -/
noncomputable def Try.pinned : Pinned := { name := "ytoanbjnhoggpjaa", sum := "53d9d197407ddbce6a682a13b61d4d0b4a4b5dc43655fe6bf9ba19abebd0000a", checked := Try.checked }
namespace Rows
def none {H : Type} : Left H := { results := [], args := [] }

/-- 'stockadelaw12.StateKnown': WHATEVER THE INPUT: true; the input reads as it did. -/
def stateKnownSpec : ChangeSpec := { name := "stateKnown", fn := fun _ => fun
  | [] => { results := [.lit (.bool true)], args := [] }
  | _ => none }
def stateKnownRow : OpenClaim := { program := "ytoanbjnhoggpjaa", sum := "53d9d197407ddbce6a682a13b61d4d0b4a4b5dc43655fe6bf9ba19abebd0000a", func := "stockade/stockadelaw12.StateKnown", spec := "stateKnown", unfollowed := true, recurses := true, apart := false }
def StateKnownSaid : Prop := stateKnownRow.holds Try.pinned (OpenSpec.ofChange stateKnownSpec)

/-- ITS FALSE NEIGHBOUR: 'it returns false'. Refute it at one input. -/
def stateKnownWrong : ChangeSpec := { name := "stateKnown", fn := fun _ => fun
  | [] => { results := [.lit (.bool false)], args := [] }
  | _ => none }
def StateKnownWrongFalsely : Prop := stateKnownRow.holds Try.pinned (OpenSpec.ofChange stateKnownWrong)

/-- 'stockadelaw12.StateMay': WHATEVER THE INPUT: true; the input reads as it did. -/
def stateMaySpec : ChangeSpec := { name := "stateMay", fn := fun _ => fun
  | [d] => { results := [.lit (.bool true)], args := [d] }
  | _ => none }
def stateMayRow : OpenClaim := { program := "ytoanbjnhoggpjaa", sum := "53d9d197407ddbce6a682a13b61d4d0b4a4b5dc43655fe6bf9ba19abebd0000a", func := "stockade/stockadelaw12.StateMay", spec := "stateMay", unfollowed := true, recurses := true, apart := false }
def StateMaySaid : Prop := stateMayRow.holds Try.pinned (OpenSpec.ofChange stateMaySpec)

/-- ITS FALSE NEIGHBOUR: 'it returns false'. Refute it at one input. -/
def stateMayWrong : ChangeSpec := { name := "stateMay", fn := fun _ => fun
  | [d] => { results := [.lit (.bool false)], args := [d] }
  | _ => none }
def StateMayWrongFalsely : Prop := stateMayRow.holds Try.pinned (OpenSpec.ofChange stateMayWrong)

/-- 'stockadelaw12.StateHolds': WHATEVER THE INPUT: true; the input reads as it did. -/
def stateHoldsSpec : ChangeSpec := { name := "stateHolds", fn := fun _ => fun
  | [d1, d2] => { results := [.lit (.bool true)], args := [d1, d2] }
  | _ => none }
def stateHoldsRow : OpenClaim := { program := "ytoanbjnhoggpjaa", sum := "53d9d197407ddbce6a682a13b61d4d0b4a4b5dc43655fe6bf9ba19abebd0000a", func := "stockade/stockadelaw12.StateHolds", spec := "stateHolds", unfollowed := true, recurses := true, apart := false }
def StateHoldsSaid : Prop := stateHoldsRow.holds Try.pinned (OpenSpec.ofChange stateHoldsSpec)

/-- ITS FALSE NEIGHBOUR: 'it returns false'. Refute it at one input. -/
def stateHoldsWrong : ChangeSpec := { name := "stateHolds", fn := fun _ => fun
  | [d1, d2] => { results := [.lit (.bool false)], args := [d1, d2] }
  | _ => none }
def StateHoldsWrongFalsely : Prop := stateHoldsRow.holds Try.pinned (OpenSpec.ofChange stateHoldsWrong)

/-- 'stockadelaw12.StateIn': WHATEVER THE INPUT: true; the input reads as it did. -/
def stateInSpec : ChangeSpec := { name := "stateIn", fn := fun _ => fun
  | [d1, d2] => { results := [.lit (.bool true)], args := [d1, d2] }
  | _ => none }
def stateInRow : OpenClaim := { program := "ytoanbjnhoggpjaa", sum := "53d9d197407ddbce6a682a13b61d4d0b4a4b5dc43655fe6bf9ba19abebd0000a", func := "stockade/stockadelaw12.StateIn", spec := "stateIn", unfollowed := true, recurses := true, apart := false }
def StateInSaid : Prop := stateInRow.holds Try.pinned (OpenSpec.ofChange stateInSpec)

/-- ITS FALSE NEIGHBOUR: 'it returns false'. Refute it at one input. -/
def stateInWrong : ChangeSpec := { name := "stateIn", fn := fun _ => fun
  | [d1, d2] => { results := [.lit (.bool false)], args := [d1, d2] }
  | _ => none }
def StateInWrongFalsely : Prop := stateInRow.holds Try.pinned (OpenSpec.ofChange stateInWrong)

/-- 'stockadelaw12.StateJoin': WHATEVER THE INPUT: true; the input reads as it did. -/
def stateJoinSpec : ChangeSpec := { name := "stateJoin", fn := fun _ => fun
  | [d1, d2] => { results := [.lit (.bool true)], args := [d1, d2] }
  | _ => none }
def stateJoinRow : OpenClaim := { program := "ytoanbjnhoggpjaa", sum := "53d9d197407ddbce6a682a13b61d4d0b4a4b5dc43655fe6bf9ba19abebd0000a", func := "stockade/stockadelaw12.StateJoin", spec := "stateJoin", unfollowed := true, recurses := true, apart := false }
def StateJoinSaid : Prop := stateJoinRow.holds Try.pinned (OpenSpec.ofChange stateJoinSpec)

/-- ITS FALSE NEIGHBOUR: 'it returns false'. Refute it at one input. -/
def stateJoinWrong : ChangeSpec := { name := "stateJoin", fn := fun _ => fun
  | [d1, d2] => { results := [.lit (.bool false)], args := [d1, d2] }
  | _ => none }
def StateJoinWrongFalsely : Prop := stateJoinRow.holds Try.pinned (OpenSpec.ofChange stateJoinWrong)

/-- 'stockadelaw11.ScalarOrder': WHATEVER THE INPUT: true; the input reads as it did. -/
def scalarOrderSpec : ChangeSpec := { name := "scalarOrder", fn := fun _ => fun
  | [d1, d2, d3] => { results := [.lit (.bool true)], args := [d1, d2, d3] }
  | _ => none }
def scalarOrderRow : OpenClaim := { program := "ytoanbjnhoggpjaa", sum := "53d9d197407ddbce6a682a13b61d4d0b4a4b5dc43655fe6bf9ba19abebd0000a", func := "stockade/stockadelaw11.ScalarOrder", spec := "scalarOrder", inPlace := ["math/bits.Add64"], unfollowed := true, recurses := true, apart := false }
def ScalarOrderSaid : Prop := scalarOrderRow.holds Try.pinned (OpenSpec.ofChange scalarOrderSpec)

/-- ITS FALSE NEIGHBOUR: 'it returns false'. Refute it at one input. -/
def scalarOrderWrong : ChangeSpec := { name := "scalarOrder", fn := fun _ => fun
  | [d1, d2, d3] => { results := [.lit (.bool false)], args := [d1, d2, d3] }
  | _ => none }
def ScalarOrderWrongFalsely : Prop := scalarOrderRow.holds Try.pinned (OpenSpec.ofChange scalarOrderWrong)

/-- 'stockadelaw10.SpanOne': WHATEVER THE INPUT: true; the input reads as it did. -/
def spanOneSpec : ChangeSpec := { name := "spanOne", fn := fun _ => fun
  | [d] => { results := [.lit (.bool true)], args := [d] }
  | _ => none }
def spanOneRow : OpenClaim := { program := "ytoanbjnhoggpjaa", sum := "53d9d197407ddbce6a682a13b61d4d0b4a4b5dc43655fe6bf9ba19abebd0000a", func := "stockade/stockadelaw10.SpanOne", spec := "spanOne", inPlace := ["math/bits.Add64"], unfollowed := true, recurses := true, apart := false }
def SpanOneSaid : Prop := spanOneRow.holds Try.pinned (OpenSpec.ofChange spanOneSpec)

/-- ITS FALSE NEIGHBOUR: 'it returns false'. Refute it at one input. -/
def spanOneWrong : ChangeSpec := { name := "spanOne", fn := fun _ => fun
  | [d] => { results := [.lit (.bool false)], args := [d] }
  | _ => none }
def SpanOneWrongFalsely : Prop := spanOneRow.holds Try.pinned (OpenSpec.ofChange spanOneWrong)

/-- 'stockadelaw09.TnumHolds': WHATEVER THE INPUT: true; the input reads as it did. -/
def tnumHoldsSpec : ChangeSpec := { name := "tnumHolds", fn := fun _ => fun
  | [d1, d2, d3] => { results := [.lit (.bool true)], args := [d1, d2, d3] }
  | _ => none }
def tnumHoldsRow : OpenClaim := { program := "ytoanbjnhoggpjaa", sum := "53d9d197407ddbce6a682a13b61d4d0b4a4b5dc43655fe6bf9ba19abebd0000a", func := "stockade/stockadelaw09.TnumHolds", spec := "tnumHolds", unfollowed := true, recurses := true, apart := false }
def TnumHoldsSaid : Prop := tnumHoldsRow.holds Try.pinned (OpenSpec.ofChange tnumHoldsSpec)

/-- ITS FALSE NEIGHBOUR: 'it returns false'. Refute it at one input. -/
def tnumHoldsWrong : ChangeSpec := { name := "tnumHolds", fn := fun _ => fun
  | [d1, d2, d3] => { results := [.lit (.bool false)], args := [d1, d2, d3] }
  | _ => none }
def TnumHoldsWrongFalsely : Prop := tnumHoldsRow.holds Try.pinned (OpenSpec.ofChange tnumHoldsWrong)

/-- 'stockadelaw09.TnumOrder': WHATEVER THE INPUT: true; the input reads as it did. -/
def tnumOrderSpec : ChangeSpec := { name := "tnumOrder", fn := fun _ => fun
  | [d1, d2, d3] => { results := [.lit (.bool true)], args := [d1, d2, d3] }
  | _ => none }
def tnumOrderRow : OpenClaim := { program := "ytoanbjnhoggpjaa", sum := "53d9d197407ddbce6a682a13b61d4d0b4a4b5dc43655fe6bf9ba19abebd0000a", func := "stockade/stockadelaw09.TnumOrder", spec := "tnumOrder", unfollowed := true, recurses := true, apart := false }
def TnumOrderSaid : Prop := tnumOrderRow.holds Try.pinned (OpenSpec.ofChange tnumOrderSpec)

/-- ITS FALSE NEIGHBOUR: 'it returns false'. Refute it at one input. -/
def tnumOrderWrong : ChangeSpec := { name := "tnumOrder", fn := fun _ => fun
  | [d1, d2, d3] => { results := [.lit (.bool false)], args := [d1, d2, d3] }
  | _ => none }
def TnumOrderWrongFalsely : Prop := tnumOrderRow.holds Try.pinned (OpenSpec.ofChange tnumOrderWrong)

/-- 'stockadelaw10.SpanAlu': WHATEVER THE INPUT: true; the input reads as it did. -/
def spanAluSpec : ChangeSpec := { name := "spanAlu", fn := fun _ => fun
  | [d1, d2, d3] => { results := [.lit (.bool true)], args := [d1, d2, d3] }
  | _ => none }
def spanAluRow : OpenClaim := { program := "ytoanbjnhoggpjaa", sum := "53d9d197407ddbce6a682a13b61d4d0b4a4b5dc43655fe6bf9ba19abebd0000a", func := "stockade/stockadelaw10.SpanAlu", spec := "spanAlu", inPlace := ["math/bits.Add64"], unfollowed := true, recurses := true, apart := false }
def SpanAluSaid : Prop := spanAluRow.holds Try.pinned (OpenSpec.ofChange spanAluSpec)

/-- ITS FALSE NEIGHBOUR: 'it returns false'. Refute it at one input. -/
def spanAluWrong : ChangeSpec := { name := "spanAlu", fn := fun _ => fun
  | [d1, d2, d3] => { results := [.lit (.bool false)], args := [d1, d2, d3] }
  | _ => none }
def SpanAluWrongFalsely : Prop := spanAluRow.holds Try.pinned (OpenSpec.ofChange spanAluWrong)

/-- 'stockadelaw09.TnumSums': WHATEVER THE INPUT: true; the input reads as it did. -/
def tnumSumsSpec : ChangeSpec := { name := "tnumSums", fn := fun _ => fun
  | [d1, d2] => { results := [.lit (.bool true)], args := [d1, d2] }
  | _ => none }
def tnumSumsRow : OpenClaim := { program := "ytoanbjnhoggpjaa", sum := "53d9d197407ddbce6a682a13b61d4d0b4a4b5dc43655fe6bf9ba19abebd0000a", func := "stockade/stockadelaw09.TnumSums", spec := "tnumSums", unfollowed := true, recurses := true, apart := false }
def TnumSumsSaid : Prop := tnumSumsRow.holds Try.pinned (OpenSpec.ofChange tnumSumsSpec)

/-- ITS FALSE NEIGHBOUR: 'it returns false'. Refute it at one input. -/
def tnumSumsWrong : ChangeSpec := { name := "tnumSums", fn := fun _ => fun
  | [d1, d2] => { results := [.lit (.bool false)], args := [d1, d2] }
  | _ => none }
def TnumSumsWrongFalsely : Prop := tnumSumsRow.holds Try.pinned (OpenSpec.ofChange tnumSumsWrong)

/-- 'stockadelaw09.TnumBest': WHATEVER THE INPUT: true; the input reads as it did. -/
def tnumBestSpec : ChangeSpec := { name := "tnumBest", fn := fun _ => fun
  | [d1, d2] => { results := [.lit (.bool true)], args := [d1, d2] }
  | _ => none }
def tnumBestRow : OpenClaim := { program := "ytoanbjnhoggpjaa", sum := "53d9d197407ddbce6a682a13b61d4d0b4a4b5dc43655fe6bf9ba19abebd0000a", func := "stockade/stockadelaw09.TnumBest", spec := "tnumBest", unfollowed := true, recurses := true, apart := false }
def TnumBestSaid : Prop := tnumBestRow.holds Try.pinned (OpenSpec.ofChange tnumBestSpec)

/-- ITS FALSE NEIGHBOUR: 'it returns false'. Refute it at one input. -/
def tnumBestWrong : ChangeSpec := { name := "tnumBest", fn := fun _ => fun
  | [d1, d2] => { results := [.lit (.bool false)], args := [d1, d2] }
  | _ => none }
def TnumBestWrongFalsely : Prop := tnumBestRow.holds Try.pinned (OpenSpec.ofChange tnumBestWrong)

/- THE SECOND FORM. 'bulk': how many values and letters a reading holds, each counted each time it is reached (what is shared counts as often as it is met; a slice's spare places count too). A statement '..UptoSaid' is the law's where the arguments, and the package variables that the reading takes, are together of bulk at most 1048576: NARROWER than '..Said'. Prove '..Said' where nothing that the law and all that it calls make is longer than what came in: it says more and counts as full. Else prove '..UptoSaid'. A law counts once. -/
mutual
def uptoBulk {H : Type} : DataW H → Nat
  | .lit (.string bytes) => bytes.length + 1
  | .lit _ => 1
  | .nil => 1
  | .ptr d => uptoBulk d + 1
  | .slice elems spare => uptoBulkAll elems + uptoBulkAll spare + 1
  | .agg parts => uptoBulkAll parts + 1
  | .iface _ d => uptoBulk d + 1
  | .map entries => uptoBulkEntries entries + 1
  | .held _ => 1
def uptoBulkAll {H : Type} : List (DataW H) → Nat
  | [] => 0
  | d :: r => uptoBulk d + uptoBulkAll r
def uptoBulkEntries {H : Type} : List (Lit × DataW H) → Nat
  | [] => 0
  | x :: r => uptoBulkEntry x + uptoBulkEntries r
def uptoBulkEntry {H : Type} : Lit × DataW H → Nat
  | (.string bytes, d) => bytes.length + uptoBulk d + 1
  | (_, d) => uptoBulk d + 1
 end
def uptoSmall : (H : Type) → List (DataW H) → Bool := fun _ ds => decide (uptoBulkAll ds ≤ 1048576)
def OpenSpec.upto (s : _root_.Go.ChangeSpec) : _root_.Go.OpenSpec := { _root_.Go.OpenSpec.ofChange s with cond := some uptoSmall }

/-- 'stockadelaw12.StateKnown', WHERE WHAT IT READS IS OF BULK AT MOST 1048576: true; the input reads as it did. -/
def stateKnownUptoRow : OpenClaim := { program := "ytoanbjnhoggpjaa", sum := "53d9d197407ddbce6a682a13b61d4d0b4a4b5dc43655fe6bf9ba19abebd0000a", func := "stockade/stockadelaw12.StateKnown", spec := "stateKnown", unfollowed := true, recurses := true, apart := false, narrowed := true }
def StateKnownUptoSaid : Prop := stateKnownUptoRow.holds Try.pinned (OpenSpec.upto stateKnownSpec)

/-- 'stockadelaw12.StateMay', WHERE WHAT IT READS IS OF BULK AT MOST 1048576: true; the input reads as it did. -/
def stateMayUptoRow : OpenClaim := { program := "ytoanbjnhoggpjaa", sum := "53d9d197407ddbce6a682a13b61d4d0b4a4b5dc43655fe6bf9ba19abebd0000a", func := "stockade/stockadelaw12.StateMay", spec := "stateMay", unfollowed := true, recurses := true, apart := false, narrowed := true }
def StateMayUptoSaid : Prop := stateMayUptoRow.holds Try.pinned (OpenSpec.upto stateMaySpec)

/-- 'stockadelaw12.StateHolds', WHERE WHAT IT READS IS OF BULK AT MOST 1048576: true; the input reads as it did. -/
def stateHoldsUptoRow : OpenClaim := { program := "ytoanbjnhoggpjaa", sum := "53d9d197407ddbce6a682a13b61d4d0b4a4b5dc43655fe6bf9ba19abebd0000a", func := "stockade/stockadelaw12.StateHolds", spec := "stateHolds", unfollowed := true, recurses := true, apart := false, narrowed := true }
def StateHoldsUptoSaid : Prop := stateHoldsUptoRow.holds Try.pinned (OpenSpec.upto stateHoldsSpec)

/-- 'stockadelaw12.StateIn', WHERE WHAT IT READS IS OF BULK AT MOST 1048576: true; the input reads as it did. -/
def stateInUptoRow : OpenClaim := { program := "ytoanbjnhoggpjaa", sum := "53d9d197407ddbce6a682a13b61d4d0b4a4b5dc43655fe6bf9ba19abebd0000a", func := "stockade/stockadelaw12.StateIn", spec := "stateIn", unfollowed := true, recurses := true, apart := false, narrowed := true }
def StateInUptoSaid : Prop := stateInUptoRow.holds Try.pinned (OpenSpec.upto stateInSpec)

/-- 'stockadelaw12.StateJoin', WHERE WHAT IT READS IS OF BULK AT MOST 1048576: true; the input reads as it did. -/
def stateJoinUptoRow : OpenClaim := { program := "ytoanbjnhoggpjaa", sum := "53d9d197407ddbce6a682a13b61d4d0b4a4b5dc43655fe6bf9ba19abebd0000a", func := "stockade/stockadelaw12.StateJoin", spec := "stateJoin", unfollowed := true, recurses := true, apart := false, narrowed := true }
def StateJoinUptoSaid : Prop := stateJoinUptoRow.holds Try.pinned (OpenSpec.upto stateJoinSpec)

/-- 'stockadelaw11.ScalarOrder', WHERE WHAT IT READS IS OF BULK AT MOST 1048576: true; the input reads as it did. -/
def scalarOrderUptoRow : OpenClaim := { program := "ytoanbjnhoggpjaa", sum := "53d9d197407ddbce6a682a13b61d4d0b4a4b5dc43655fe6bf9ba19abebd0000a", func := "stockade/stockadelaw11.ScalarOrder", spec := "scalarOrder", inPlace := ["math/bits.Add64"], unfollowed := true, recurses := true, apart := false, narrowed := true }
def ScalarOrderUptoSaid : Prop := scalarOrderUptoRow.holds Try.pinned (OpenSpec.upto scalarOrderSpec)

/-- 'stockadelaw10.SpanOne', WHERE WHAT IT READS IS OF BULK AT MOST 1048576: true; the input reads as it did. -/
def spanOneUptoRow : OpenClaim := { program := "ytoanbjnhoggpjaa", sum := "53d9d197407ddbce6a682a13b61d4d0b4a4b5dc43655fe6bf9ba19abebd0000a", func := "stockade/stockadelaw10.SpanOne", spec := "spanOne", inPlace := ["math/bits.Add64"], unfollowed := true, recurses := true, apart := false, narrowed := true }
def SpanOneUptoSaid : Prop := spanOneUptoRow.holds Try.pinned (OpenSpec.upto spanOneSpec)

/-- 'stockadelaw09.TnumHolds', WHERE WHAT IT READS IS OF BULK AT MOST 1048576: true; the input reads as it did. -/
def tnumHoldsUptoRow : OpenClaim := { program := "ytoanbjnhoggpjaa", sum := "53d9d197407ddbce6a682a13b61d4d0b4a4b5dc43655fe6bf9ba19abebd0000a", func := "stockade/stockadelaw09.TnumHolds", spec := "tnumHolds", unfollowed := true, recurses := true, apart := false, narrowed := true }
def TnumHoldsUptoSaid : Prop := tnumHoldsUptoRow.holds Try.pinned (OpenSpec.upto tnumHoldsSpec)

/-- 'stockadelaw09.TnumOrder', WHERE WHAT IT READS IS OF BULK AT MOST 1048576: true; the input reads as it did. -/
def tnumOrderUptoRow : OpenClaim := { program := "ytoanbjnhoggpjaa", sum := "53d9d197407ddbce6a682a13b61d4d0b4a4b5dc43655fe6bf9ba19abebd0000a", func := "stockade/stockadelaw09.TnumOrder", spec := "tnumOrder", unfollowed := true, recurses := true, apart := false, narrowed := true }
def TnumOrderUptoSaid : Prop := tnumOrderUptoRow.holds Try.pinned (OpenSpec.upto tnumOrderSpec)

/-- 'stockadelaw10.SpanAlu', WHERE WHAT IT READS IS OF BULK AT MOST 1048576: true; the input reads as it did. -/
def spanAluUptoRow : OpenClaim := { program := "ytoanbjnhoggpjaa", sum := "53d9d197407ddbce6a682a13b61d4d0b4a4b5dc43655fe6bf9ba19abebd0000a", func := "stockade/stockadelaw10.SpanAlu", spec := "spanAlu", inPlace := ["math/bits.Add64"], unfollowed := true, recurses := true, apart := false, narrowed := true }
def SpanAluUptoSaid : Prop := spanAluUptoRow.holds Try.pinned (OpenSpec.upto spanAluSpec)

/-- 'stockadelaw09.TnumSums', WHERE WHAT IT READS IS OF BULK AT MOST 1048576: true; the input reads as it did. -/
def tnumSumsUptoRow : OpenClaim := { program := "ytoanbjnhoggpjaa", sum := "53d9d197407ddbce6a682a13b61d4d0b4a4b5dc43655fe6bf9ba19abebd0000a", func := "stockade/stockadelaw09.TnumSums", spec := "tnumSums", unfollowed := true, recurses := true, apart := false, narrowed := true }
def TnumSumsUptoSaid : Prop := tnumSumsUptoRow.holds Try.pinned (OpenSpec.upto tnumSumsSpec)

/-- 'stockadelaw09.TnumBest', WHERE WHAT IT READS IS OF BULK AT MOST 1048576: true; the input reads as it did. -/
def tnumBestUptoRow : OpenClaim := { program := "ytoanbjnhoggpjaa", sum := "53d9d197407ddbce6a682a13b61d4d0b4a4b5dc43655fe6bf9ba19abebd0000a", func := "stockade/stockadelaw09.TnumBest", spec := "tnumBest", unfollowed := true, recurses := true, apart := false, narrowed := true }
def TnumBestUptoSaid : Prop := tnumBestUptoRow.holds Try.pinned (OpenSpec.upto tnumBestSpec)

end Rows
end Go.Proofs.Ytoanbjnhoggpjaa
