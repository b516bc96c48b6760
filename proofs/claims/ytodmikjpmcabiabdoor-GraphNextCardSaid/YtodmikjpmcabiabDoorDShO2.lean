/-
  An argument that is a list of instructions, opened.
-/
import Derived.Test.YtodmikjpmcabiabDoorDShO
namespace Go.Proofs.YtodmikjpmcabiabDoor
set_option linter.unusedSimpArgs false
set_option linter.unusedVariables false
set_option maxRecDepth 100000
open Go.ChangeShapes Go.WideShapes Go.ChangeAt Go.RowKit Go.Joins Go.Deep
set_option maxRecDepth 100000 in
theorem open_code_arg {H : Type} {enc : TypeId × Value → H} {W : World} {v : Value} {d : DataW H} {p : List MemPlace} {r : Reach} {b0 : Nat} (hv : Value.okWide Tryd.prog W r b0 22 v) (h : DataW.Trod enc Tryd.prog W 0 (fun _ => true) true 22 v d p) (hlt : ∀ x ∈ p, x.block < W.heap.size)
    (hsz : (DataW.weights Tryd.prog 22 d).all (· ≤ reachBytes) = true) :
    ∃ pk n ck c, v = .slice pk n ck ∧ n ≤ ck ∧ CdSl W.heap.size W pk n c := by
  obtain ⟨a0, len, cap, rfl⟩ := okWide_slice Tryd.underlying22 hv
  obtain ⟨fuel, hf⟩ := h
  exact open_code (x := (d, p)) hf hlt (fun es sp e => by
    have e' : d = .slice es sp := e
    subst e'
    have := sized_slice (ts := [22]) (ds := [.slice es sp]) (P := Tryd.prog) (by simpa [DataW.weightsEach] using hsz) (j := 0) rfl rfl Tryd.underlying22
    rwa [insnBytes] at this)
end Go.Proofs.YtodmikjpmcabiabDoor
