/-
  No cell of these rows narrows 'for every input' (looked for: loops, veiled, ifaces, maps, wideKeys, modest, calm, conditions, laid).
  DERIVED. THE GIVEN ROWS OF THIS SEAT. 2 by the template 'for every input the law returns true; each argument reads behind the call as it read before'; 0 by the template 'total and deterministic' (their statements: YtjcnpjidkimldaaTotals.lean).
  GIVEN WITH THE SEED: the statements are not yours to turn. If you find one false, say at which input.
  Laid BY PROGRAM, IN A SANDBOX (cutbox-rows.mjs): the forced cells as the released guide's own fill.sh prints them over the translation 52bd8a0f17751928… (all of the seat's roots in one cut). By AI agents, Wed Nov 11 2026. No macro, syntax, notation, axiom, sorry.
-/
import Derived.Test.YtjcnpjidkimldaaChecked
import GoSem.Claim
import GoSem.ClaimJoined
import GoSem.ClaimMapViews
import Derived.JoinedTies
import Derived.KernelRfl
namespace Go.Proofs.Ytjcnpjidkimldaa
/- THE CELL 'sum', in the pinned program and in every row, IS THE sha256 OF THE DUMP (.gsa) THAT YtjcnpjidkimldaaProg.lean LOADS. Nothing in Lean hashes anything: it is a label: what it is worth is what the hold of that sum in a sandbox is worth. -/
noncomputable def Try.pinned : Pinned := { name := "ytjcnpjidkimldaa", sum := "52bd8a0f1775192890680fbaea40b9175cc4f8751c71ad300d29c8126084a563", checked := Try.checked }
namespace Rows
def none {H : Type} : Left H := { results := [], args := [] }

/-- 'stockadelaw10.SpanAlu': WHATEVER THE INPUT: true; the input reads as it did. -/
def spanAluSpec : ChangeSpec := { name := "spanAlu", fn := fun _ => fun
  | [d1, d2, d3] => { results := [.lit (.bool true)], args := [d1, d2, d3] }
  | _ => none }
def spanAluRow : OpenClaim := { program := "ytjcnpjidkimldaa", sum := "52bd8a0f1775192890680fbaea40b9175cc4f8751c71ad300d29c8126084a563", func := "stockade/stockadelaw10.SpanAlu", spec := "spanAlu", inPlace := ["math/bits.Add64"], unfollowed := true, recurses := true, apart := false }
def SpanAluSaid : Prop := spanAluRow.holds Try.pinned (OpenSpec.ofChange spanAluSpec)

/-- ITS FALSE NEIGHBOUR: 'it returns false'. Refute it at one input. -/
def spanAluWrong : ChangeSpec := { name := "spanAlu", fn := fun _ => fun
  | [d1, d2, d3] => { results := [.lit (.bool false)], args := [d1, d2, d3] }
  | _ => none }
def SpanAluWrongFalsely : Prop := spanAluRow.holds Try.pinned (OpenSpec.ofChange spanAluWrong)

/-- 'stockadelaw09.TnumBest': WHATEVER THE INPUT: true; the input reads as it did. -/
def tnumBestSpec : ChangeSpec := { name := "tnumBest", fn := fun _ => fun
  | [d1, d2] => { results := [.lit (.bool true)], args := [d1, d2] }
  | _ => none }
def tnumBestRow : OpenClaim := { program := "ytjcnpjidkimldaa", sum := "52bd8a0f1775192890680fbaea40b9175cc4f8751c71ad300d29c8126084a563", func := "stockade/stockadelaw09.TnumBest", spec := "tnumBest", unfollowed := true, recurses := true, apart := false }
def TnumBestSaid : Prop := tnumBestRow.holds Try.pinned (OpenSpec.ofChange tnumBestSpec)

/-- ITS FALSE NEIGHBOUR: 'it returns false'. Refute it at one input. -/
def tnumBestWrong : ChangeSpec := { name := "tnumBest", fn := fun _ => fun
  | [d1, d2] => { results := [.lit (.bool false)], args := [d1, d2] }
  | _ => none }
def TnumBestWrongFalsely : Prop := tnumBestRow.holds Try.pinned (OpenSpec.ofChange tnumBestWrong)

/- THE SECOND FORM. 'bulk': how many values and letters a reading holds, each counted each time it is reached (what is shared counts as often as it is met; a slice's spare places count too). A statement '..UptoSaid' is the law's where the arguments, and the package variables that the reading takes, are together of bulk at most 1048576: NARROWER than '..Said'. Prove '..Said' where nothing that the law and all that it calls make is longer than what came in: it says more and counts as full. Else prove '..UptoSaid'. A law counts once. -/
mutual
def uptoBulk {H : Type} : DataW H → Nat
  | .lit (.string bytes) => bytes.length + 1
  | .lit _ => 1
  | .nil => 1
  | .ptr d => uptoBulk d + 1
  | .slice elems spare => uptoBulkAll elems + uptoBulkAll spare + 1
  | .agg parts => uptoBulkAll parts + 1
  | .iface _ d => uptoBulk d + 1
  | .map entries => uptoBulkEntries entries + 1
  | .held _ => 1
def uptoBulkAll {H : Type} : List (DataW H) → Nat
  | [] => 0
  | d :: r => uptoBulk d + uptoBulkAll r
def uptoBulkEntries {H : Type} : List (Lit × DataW H) → Nat
  | [] => 0
  | x :: r => uptoBulkEntry x + uptoBulkEntries r
def uptoBulkEntry {H : Type} : Lit × DataW H → Nat
  | (.string bytes, d) => bytes.length + uptoBulk d + 1
  | (_, d) => uptoBulk d + 1
 end
def uptoSmall : (H : Type) → List (DataW H) → Bool := fun _ ds => decide (uptoBulkAll ds ≤ 1048576)
def OpenSpec.upto (s : _root_.Go.ChangeSpec) : _root_.Go.OpenSpec := { _root_.Go.OpenSpec.ofChange s with cond := some uptoSmall }

/-- 'stockadelaw10.SpanAlu', WHERE WHAT IT READS IS OF BULK AT MOST 1048576: true; the input reads as it did. -/
def spanAluUptoRow : OpenClaim := { program := "ytjcnpjidkimldaa", sum := "52bd8a0f1775192890680fbaea40b9175cc4f8751c71ad300d29c8126084a563", func := "stockade/stockadelaw10.SpanAlu", spec := "spanAlu", inPlace := ["math/bits.Add64"], unfollowed := true, recurses := true, apart := false, narrowed := true }
def SpanAluUptoSaid : Prop := spanAluUptoRow.holds Try.pinned (OpenSpec.upto spanAluSpec)

/-- 'stockadelaw09.TnumBest', WHERE WHAT IT READS IS OF BULK AT MOST 1048576: true; the input reads as it did. -/
def tnumBestUptoRow : OpenClaim := { program := "ytjcnpjidkimldaa", sum := "52bd8a0f1775192890680fbaea40b9175cc4f8751c71ad300d29c8126084a563", func := "stockade/stockadelaw09.TnumBest", spec := "tnumBest", unfollowed := true, recurses := true, apart := false, narrowed := true }
def TnumBestUptoSaid : Prop := tnumBestUptoRow.holds Try.pinned (OpenSpec.upto tnumBestSpec)

end Rows
end Go.Proofs.Ytjcnpjidkimldaa
