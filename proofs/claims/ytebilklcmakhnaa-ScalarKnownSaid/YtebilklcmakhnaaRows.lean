/-
  No cell of these rows narrows 'for every input' (looked for: loops, veiled, ifaces, maps, wideKeys, modest, calm, conditions, laid).
  DERIVED. THE GIVEN ROWS OF THIS SEAT. 8 by the template 'for every input the law returns true; each argument reads behind the call as it read before'; 0 by the template 'total and deterministic' (their statements: YtebilklcmakhnaaTotals.lean).
  GIVEN WITH THE SEED: the statements are not yours to turn. If you find one false, say at which input.
  Laid BY PROGRAM, IN A SANDBOX (cutbox-rows.mjs): the forced cells as the released guide's own fill.sh prints them over the translation 8e3aacf7ea8b27d0… (all of the seat's roots in one cut). By AI agents, Wed Nov 11 2026. No macro, syntax, notation, axiom, sorry.
-/
import Derived.Test.YtebilklcmakhnaaChecked
import GoSem.Claim
import GoSem.ClaimJoined
import GoSem.ClaimMapViews
import Derived.JoinedTies
import Derived.KernelRfl
namespace Go.Proofs.Ytebilklcmakhnaa
/- THE CELL 'sum', in the pinned program and in every row, IS THE sha256 OF THE DUMP (.gsa) THAT YtebilklcmakhnaaProg.lean LOADS. Nothing in Lean hashes anything: it is a label: what it is worth is what the hold of that sum in a sandbox is worth. -/
noncomputable def Try.pinned : Pinned := { name := "ytebilklcmakhnaa", sum := "8e3aacf7ea8b27d0a3085e553e8e586b1271957295a58bf281d422e657bdd75a", checked := Try.checked }
namespace Rows
def none {H : Type} : Left H := { results := [], args := [] }

/-- 'stockadelaw11.ScalarSound': WHATEVER THE INPUT: true; the input reads as it did. -/
def scalarSoundSpec : ChangeSpec := { name := "scalarSound", fn := fun _ => fun
  | [d1, d2, d3] => { results := [.lit (.bool true)], args := [d1, d2, d3] }
  | _ => none }
def scalarSoundRow : OpenClaim := { program := "ytebilklcmakhnaa", sum := "8e3aacf7ea8b27d0a3085e553e8e586b1271957295a58bf281d422e657bdd75a", func := "stockade/stockadelaw11.ScalarSound", spec := "scalarSound", inPlace := ["math/bits.Add64"], unfollowed := true, recurses := true, apart := false }
def ScalarSoundSaid : Prop := scalarSoundRow.holds Try.pinned (OpenSpec.ofChange scalarSoundSpec)

/-- ITS FALSE NEIGHBOUR: 'it returns false'. Refute it at one input. -/
def scalarSoundWrong : ChangeSpec := { name := "scalarSound", fn := fun _ => fun
  | [d1, d2, d3] => { results := [.lit (.bool false)], args := [d1, d2, d3] }
  | _ => none }
def ScalarSoundWrongFalsely : Prop := scalarSoundRow.holds Try.pinned (OpenSpec.ofChange scalarSoundWrong)

/-- 'stockadelaw11.ScalarKeeps': WHATEVER THE INPUT: true; the input reads as it did. -/
def scalarKeepsSpec : ChangeSpec := { name := "scalarKeeps", fn := fun _ => fun
  | [d1, d2, d3] => { results := [.lit (.bool true)], args := [d1, d2, d3] }
  | _ => none }
def scalarKeepsRow : OpenClaim := { program := "ytebilklcmakhnaa", sum := "8e3aacf7ea8b27d0a3085e553e8e586b1271957295a58bf281d422e657bdd75a", func := "stockade/stockadelaw11.ScalarKeeps", spec := "scalarKeeps", inPlace := ["math/bits.Add64"], unfollowed := true, recurses := true, apart := false }
def ScalarKeepsSaid : Prop := scalarKeepsRow.holds Try.pinned (OpenSpec.ofChange scalarKeepsSpec)

/-- ITS FALSE NEIGHBOUR: 'it returns false'. Refute it at one input. -/
def scalarKeepsWrong : ChangeSpec := { name := "scalarKeeps", fn := fun _ => fun
  | [d1, d2, d3] => { results := [.lit (.bool false)], args := [d1, d2, d3] }
  | _ => none }
def ScalarKeepsWrongFalsely : Prop := scalarKeepsRow.holds Try.pinned (OpenSpec.ofChange scalarKeepsWrong)

/-- 'stockadelaw11.ScalarOrder': WHATEVER THE INPUT: true; the input reads as it did. -/
def scalarOrderSpec : ChangeSpec := { name := "scalarOrder", fn := fun _ => fun
  | [d1, d2, d3] => { results := [.lit (.bool true)], args := [d1, d2, d3] }
  | _ => none }
def scalarOrderRow : OpenClaim := { program := "ytebilklcmakhnaa", sum := "8e3aacf7ea8b27d0a3085e553e8e586b1271957295a58bf281d422e657bdd75a", func := "stockade/stockadelaw11.ScalarOrder", spec := "scalarOrder", inPlace := ["math/bits.Add64"], unfollowed := true, recurses := true, apart := false }
def ScalarOrderSaid : Prop := scalarOrderRow.holds Try.pinned (OpenSpec.ofChange scalarOrderSpec)

/-- ITS FALSE NEIGHBOUR: 'it returns false'. Refute it at one input. -/
def scalarOrderWrong : ChangeSpec := { name := "scalarOrder", fn := fun _ => fun
  | [d1, d2, d3] => { results := [.lit (.bool false)], args := [d1, d2, d3] }
  | _ => none }
def ScalarOrderWrongFalsely : Prop := scalarOrderRow.holds Try.pinned (OpenSpec.ofChange scalarOrderWrong)

/-- 'stockadelaw11.ScalarSettles': WHATEVER THE INPUT: true; the input reads as it did. -/
def scalarSettlesSpec : ChangeSpec := { name := "scalarSettles", fn := fun _ => fun
  | [d1, d2, d3] => { results := [.lit (.bool true)], args := [d1, d2, d3] }
  | _ => none }
def scalarSettlesRow : OpenClaim := { program := "ytebilklcmakhnaa", sum := "8e3aacf7ea8b27d0a3085e553e8e586b1271957295a58bf281d422e657bdd75a", func := "stockade/stockadelaw11.ScalarSettles", spec := "scalarSettles", inPlace := ["math/bits.Add64"], unfollowed := true, recurses := true, apart := false }
def ScalarSettlesSaid : Prop := scalarSettlesRow.holds Try.pinned (OpenSpec.ofChange scalarSettlesSpec)

/-- ITS FALSE NEIGHBOUR: 'it returns false'. Refute it at one input. -/
def scalarSettlesWrong : ChangeSpec := { name := "scalarSettles", fn := fun _ => fun
  | [d1, d2, d3] => { results := [.lit (.bool false)], args := [d1, d2, d3] }
  | _ => none }
def ScalarSettlesWrongFalsely : Prop := scalarSettlesRow.holds Try.pinned (OpenSpec.ofChange scalarSettlesWrong)

/-- 'stockadelaw11.ScalarKnown': WHATEVER THE INPUT: true; the input reads as it did. -/
def scalarKnownSpec : ChangeSpec := { name := "scalarKnown", fn := fun _ => fun
  | [] => { results := [.lit (.bool true)], args := [] }
  | _ => none }
def scalarKnownRow : OpenClaim := { program := "ytebilklcmakhnaa", sum := "8e3aacf7ea8b27d0a3085e553e8e586b1271957295a58bf281d422e657bdd75a", func := "stockade/stockadelaw11.ScalarKnown", spec := "scalarKnown", inPlace := ["math/bits.Add64"], unfollowed := true, recurses := true, apart := false }
def ScalarKnownSaid : Prop := scalarKnownRow.holds Try.pinned (OpenSpec.ofChange scalarKnownSpec)

/-- ITS FALSE NEIGHBOUR: 'it returns false'. Refute it at one input. -/
def scalarKnownWrong : ChangeSpec := { name := "scalarKnown", fn := fun _ => fun
  | [] => { results := [.lit (.bool false)], args := [] }
  | _ => none }
def ScalarKnownWrongFalsely : Prop := scalarKnownRow.holds Try.pinned (OpenSpec.ofChange scalarKnownWrong)

/-- 'stockadelaw10.SpanAlu': WHATEVER THE INPUT: true; the input reads as it did. -/
def spanAluSpec : ChangeSpec := { name := "spanAlu", fn := fun _ => fun
  | [d1, d2, d3] => { results := [.lit (.bool true)], args := [d1, d2, d3] }
  | _ => none }
def spanAluRow : OpenClaim := { program := "ytebilklcmakhnaa", sum := "8e3aacf7ea8b27d0a3085e553e8e586b1271957295a58bf281d422e657bdd75a", func := "stockade/stockadelaw10.SpanAlu", spec := "spanAlu", inPlace := ["math/bits.Add64"], unfollowed := true, recurses := true, apart := false }
def SpanAluSaid : Prop := spanAluRow.holds Try.pinned (OpenSpec.ofChange spanAluSpec)

/-- ITS FALSE NEIGHBOUR: 'it returns false'. Refute it at one input. -/
def spanAluWrong : ChangeSpec := { name := "spanAlu", fn := fun _ => fun
  | [d1, d2, d3] => { results := [.lit (.bool false)], args := [d1, d2, d3] }
  | _ => none }
def SpanAluWrongFalsely : Prop := spanAluRow.holds Try.pinned (OpenSpec.ofChange spanAluWrong)

/-- 'stockadelaw10.SpanOne': WHATEVER THE INPUT: true; the input reads as it did. -/
def spanOneSpec : ChangeSpec := { name := "spanOne", fn := fun _ => fun
  | [d] => { results := [.lit (.bool true)], args := [d] }
  | _ => none }
def spanOneRow : OpenClaim := { program := "ytebilklcmakhnaa", sum := "8e3aacf7ea8b27d0a3085e553e8e586b1271957295a58bf281d422e657bdd75a", func := "stockade/stockadelaw10.SpanOne", spec := "spanOne", inPlace := ["math/bits.Add64"], unfollowed := true, recurses := true, apart := false }
def SpanOneSaid : Prop := spanOneRow.holds Try.pinned (OpenSpec.ofChange spanOneSpec)

/-- ITS FALSE NEIGHBOUR: 'it returns false'. Refute it at one input. -/
def spanOneWrong : ChangeSpec := { name := "spanOne", fn := fun _ => fun
  | [d] => { results := [.lit (.bool false)], args := [d] }
  | _ => none }
def SpanOneWrongFalsely : Prop := spanOneRow.holds Try.pinned (OpenSpec.ofChange spanOneWrong)

/-- 'stockadelaw09.TnumHolds': WHATEVER THE INPUT: true; the input reads as it did. -/
def tnumHoldsSpec : ChangeSpec := { name := "tnumHolds", fn := fun _ => fun
  | [d1, d2, d3] => { results := [.lit (.bool true)], args := [d1, d2, d3] }
  | _ => none }
def tnumHoldsRow : OpenClaim := { program := "ytebilklcmakhnaa", sum := "8e3aacf7ea8b27d0a3085e553e8e586b1271957295a58bf281d422e657bdd75a", func := "stockade/stockadelaw09.TnumHolds", spec := "tnumHolds", unfollowed := true, recurses := true, apart := false }
def TnumHoldsSaid : Prop := tnumHoldsRow.holds Try.pinned (OpenSpec.ofChange tnumHoldsSpec)

/-- ITS FALSE NEIGHBOUR: 'it returns false'. Refute it at one input. -/
def tnumHoldsWrong : ChangeSpec := { name := "tnumHolds", fn := fun _ => fun
  | [d1, d2, d3] => { results := [.lit (.bool false)], args := [d1, d2, d3] }
  | _ => none }
def TnumHoldsWrongFalsely : Prop := tnumHoldsRow.holds Try.pinned (OpenSpec.ofChange tnumHoldsWrong)

/- THE SECOND FORM. 'bulk': how many values and letters a reading holds, each counted each time it is reached (what is shared counts as often as it is met; a slice's spare places count too). A statement '..UptoSaid' is the law's where the arguments, and the package variables that the reading takes, are together of bulk at most 1048576: NARROWER than '..Said'. Prove '..Said' where nothing that the law and all that it calls make is longer than what came in: it says more and counts as full. Else prove '..UptoSaid'. A law counts once. -/
mutual
def uptoBulk {H : Type} : DataW H → Nat
  | .lit (.string bytes) => bytes.length + 1
  | .lit _ => 1
  | .nil => 1
  | .ptr d => uptoBulk d + 1
  | .slice elems spare => uptoBulkAll elems + uptoBulkAll spare + 1
  | .agg parts => uptoBulkAll parts + 1
  | .iface _ d => uptoBulk d + 1
  | .map entries => uptoBulkEntries entries + 1
  | .held _ => 1
def uptoBulkAll {H : Type} : List (DataW H) → Nat
  | [] => 0
  | d :: r => uptoBulk d + uptoBulkAll r
def uptoBulkEntries {H : Type} : List (Lit × DataW H) → Nat
  | [] => 0
  | x :: r => uptoBulkEntry x + uptoBulkEntries r
def uptoBulkEntry {H : Type} : Lit × DataW H → Nat
  | (.string bytes, d) => bytes.length + uptoBulk d + 1
  | (_, d) => uptoBulk d + 1
 end
def uptoSmall : (H : Type) → List (DataW H) → Bool := fun _ ds => decide (uptoBulkAll ds ≤ 1048576)
def OpenSpec.upto (s : _root_.Go.ChangeSpec) : _root_.Go.OpenSpec := { _root_.Go.OpenSpec.ofChange s with cond := some uptoSmall }

/-- 'stockadelaw11.ScalarSound', WHERE WHAT IT READS IS OF BULK AT MOST 1048576: true; the input reads as it did. -/
def scalarSoundUptoRow : OpenClaim := { program := "ytebilklcmakhnaa", sum := "8e3aacf7ea8b27d0a3085e553e8e586b1271957295a58bf281d422e657bdd75a", func := "stockade/stockadelaw11.ScalarSound", spec := "scalarSound", inPlace := ["math/bits.Add64"], unfollowed := true, recurses := true, apart := false, narrowed := true }
def ScalarSoundUptoSaid : Prop := scalarSoundUptoRow.holds Try.pinned (OpenSpec.upto scalarSoundSpec)

/-- 'stockadelaw11.ScalarKeeps', WHERE WHAT IT READS IS OF BULK AT MOST 1048576: true; the input reads as it did. -/
def scalarKeepsUptoRow : OpenClaim := { program := "ytebilklcmakhnaa", sum := "8e3aacf7ea8b27d0a3085e553e8e586b1271957295a58bf281d422e657bdd75a", func := "stockade/stockadelaw11.ScalarKeeps", spec := "scalarKeeps", inPlace := ["math/bits.Add64"], unfollowed := true, recurses := true, apart := false, narrowed := true }
def ScalarKeepsUptoSaid : Prop := scalarKeepsUptoRow.holds Try.pinned (OpenSpec.upto scalarKeepsSpec)

/-- 'stockadelaw11.ScalarOrder', WHERE WHAT IT READS IS OF BULK AT MOST 1048576: true; the input reads as it did. -/
def scalarOrderUptoRow : OpenClaim := { program := "ytebilklcmakhnaa", sum := "8e3aacf7ea8b27d0a3085e553e8e586b1271957295a58bf281d422e657bdd75a", func := "stockade/stockadelaw11.ScalarOrder", spec := "scalarOrder", inPlace := ["math/bits.Add64"], unfollowed := true, recurses := true, apart := false, narrowed := true }
def ScalarOrderUptoSaid : Prop := scalarOrderUptoRow.holds Try.pinned (OpenSpec.upto scalarOrderSpec)

/-- 'stockadelaw11.ScalarSettles', WHERE WHAT IT READS IS OF BULK AT MOST 1048576: true; the input reads as it did. -/
def scalarSettlesUptoRow : OpenClaim := { program := "ytebilklcmakhnaa", sum := "8e3aacf7ea8b27d0a3085e553e8e586b1271957295a58bf281d422e657bdd75a", func := "stockade/stockadelaw11.ScalarSettles", spec := "scalarSettles", inPlace := ["math/bits.Add64"], unfollowed := true, recurses := true, apart := false, narrowed := true }
def ScalarSettlesUptoSaid : Prop := scalarSettlesUptoRow.holds Try.pinned (OpenSpec.upto scalarSettlesSpec)

/-- 'stockadelaw11.ScalarKnown', WHERE WHAT IT READS IS OF BULK AT MOST 1048576: true; the input reads as it did. -/
def scalarKnownUptoRow : OpenClaim := { program := "ytebilklcmakhnaa", sum := "8e3aacf7ea8b27d0a3085e553e8e586b1271957295a58bf281d422e657bdd75a", func := "stockade/stockadelaw11.ScalarKnown", spec := "scalarKnown", inPlace := ["math/bits.Add64"], unfollowed := true, recurses := true, apart := false, narrowed := true }
def ScalarKnownUptoSaid : Prop := scalarKnownUptoRow.holds Try.pinned (OpenSpec.upto scalarKnownSpec)

/-- 'stockadelaw10.SpanAlu', WHERE WHAT IT READS IS OF BULK AT MOST 1048576: true; the input reads as it did. -/
def spanAluUptoRow : OpenClaim := { program := "ytebilklcmakhnaa", sum := "8e3aacf7ea8b27d0a3085e553e8e586b1271957295a58bf281d422e657bdd75a", func := "stockade/stockadelaw10.SpanAlu", spec := "spanAlu", inPlace := ["math/bits.Add64"], unfollowed := true, recurses := true, apart := false, narrowed := true }
def SpanAluUptoSaid : Prop := spanAluUptoRow.holds Try.pinned (OpenSpec.upto spanAluSpec)

/-- 'stockadelaw10.SpanOne', WHERE WHAT IT READS IS OF BULK AT MOST 1048576: true; the input reads as it did. -/
def spanOneUptoRow : OpenClaim := { program := "ytebilklcmakhnaa", sum := "8e3aacf7ea8b27d0a3085e553e8e586b1271957295a58bf281d422e657bdd75a", func := "stockade/stockadelaw10.SpanOne", spec := "spanOne", inPlace := ["math/bits.Add64"], unfollowed := true, recurses := true, apart := false, narrowed := true }
def SpanOneUptoSaid : Prop := spanOneUptoRow.holds Try.pinned (OpenSpec.upto spanOneSpec)

/-- 'stockadelaw09.TnumHolds', WHERE WHAT IT READS IS OF BULK AT MOST 1048576: true; the input reads as it did. -/
def tnumHoldsUptoRow : OpenClaim := { program := "ytebilklcmakhnaa", sum := "8e3aacf7ea8b27d0a3085e553e8e586b1271957295a58bf281d422e657bdd75a", func := "stockade/stockadelaw09.TnumHolds", spec := "tnumHolds", unfollowed := true, recurses := true, apart := false, narrowed := true }
def TnumHoldsUptoSaid : Prop := tnumHoldsUptoRow.holds Try.pinned (OpenSpec.upto tnumHoldsSpec)

end Rows
end Go.Proofs.Ytebilklcmakhnaa
