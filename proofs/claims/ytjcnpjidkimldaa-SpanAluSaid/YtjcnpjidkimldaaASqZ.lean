/-
  Two spans in an array, handed in.
-/
import Derived.Test.YtjcnpjidkimldaaASqW
import Derived.Test.YtjcnpjidkimldaaAClK
import Derived.Lib.SmallJoins
namespace Go.Proofs.Ytjcnpjidkimldaa
set_option linter.unusedSimpArgs false
set_option linter.unusedVariables false
set_option maxRecDepth 100000
set_option maxRecDepth 100000
open Go.ChangeShapes Go.WideShapes Go.ChangeAt Go.RowKit Go.Joins

section
variable {H : Type} {enc : TypeId × Value → H}
theorem u64_of2 {w : World} {base : Nat} {spare : Nat → Bool} {held : Bool} {n : Nat} {c : Value} {y : DataW H × List MemPlace} (h : DataW.trod enc Try.prog w base spare held n 22 [c] = some y) : ∃ z : B64, c = .int .u64 (ub z) := by
  obtain ⟨x, e, _, hw⟩ := DataW.trod_int (k := .u64) Try.underlying22 h
  obtain ⟨lo, hi⟩ := bounds_u64 hw
  obtain ⟨z, rfl⟩ := ub_of x lo (by omega)
  exact ⟨z, (List.cons.inj e).1⟩
theorem span_of2 {w : World} {base : Nat} {spare : Nat → Bool} {held : Bool} {n : Nat} {c d : Value} {y : DataW H × List MemPlace} (h : DataW.trod enc Try.prog w base spare held n 24 [c, d] = some y) : ∃ x z : B64, c = .int .u64 (ub x) ∧ d = .int .u64 (ub z) := by
  obtain ⟨y0, y1, m, _, _, h0, h1⟩ := trod_struct2 Try.underlying24 h
  have e0 : DataW.trod enc Try.prog w base spare held m 22 [c] = some y0 := h0
  have e1 : DataW.trod enc Try.prog w base spare held m 22 [d] = some y1 := h1
  obtain ⟨x, rfl⟩ := u64_of2 e0
  obtain ⟨z, rfl⟩ := u64_of2 e1
  exact ⟨x, z, rfl, rfl⟩
theorem arrQ4 {cs : Array Value} (h : cs.size = 4) : ∃ a b c d, cs = #[a, b, c, d] := by
  obtain ⟨l⟩ := cs
  match l, h with
  | [a, b, c, d], _ => exact ⟨a, b, c, d, rfl⟩
theorem open_spans {w : World} {base : Nat} {spare : Nat → Bool} {held : Bool} {r : Reach} {b0 : Nat} {v : Value} {d : DataW H} {p : List MemPlace}
    (hv : Value.okWide Try.prog w r b0 25 v) (h : DataW.Trod enc Try.prog w base spare held 25 v d p) :
    ∃ a1 a2 b1 b2 : B64, v = .agg #[.int .u64 (ub a1), .int .u64 (ub a2), .int .u64 (ub b1), .int .u64 (ub b2)] := by
  have hs : Try.prog.underlying 25 = some (.array 2 24) := Try.underlying25
  simp only [Value.okWide, hs] at hv
  obtain ⟨cs, rfl, hsz, _⟩ := hv
  obtain ⟨c0, c1, c2, c3, rfl⟩ := arrQ4 (hsz.trans (show Try.prog.cellsOf 25 = 4 by kernel_rfl))
  obtain ⟨fuel, hf⟩ := h
  obtain ⟨xs, m, _, hx, _, hlen, hg⟩ := DataW.trod_array hs hf
  have k3 : Try.prog.cellsOf 24 = 2 := by kernel_rfl
  have g0 : DataW.trod enc Try.prog w base spare held m 24 (([c0, c1, c2, c3].drop (0 * Try.prog.cellsOf 24)).take (Try.prog.cellsOf 24)) = xs[0]? := hg 0 (by decide)
  have g1 : DataW.trod enc Try.prog w base spare held m 24 (([c0, c1, c2, c3].drop (1 * Try.prog.cellsOf 24)).take (Try.prog.cellsOf 24)) = xs[1]? := hg 1 (by decide)
  rw [k3] at g0 g1
  rw [List.getElem?_eq_getElem (by omega)] at g0 g1
  obtain ⟨a1, a2, rfl, rfl⟩ := span_of2 (show DataW.trod enc Try.prog w base spare held m 24 [c0, c1] = some _ from g0)
  obtain ⟨b1, b2, rfl, rfl⟩ := span_of2 (show DataW.trod enc Try.prog w base spare held m 24 [c2, c3] = some _ from g1)
  exact ⟨a1, a2, b1, b2, rfl⟩
end
end Go.Proofs.Ytjcnpjidkimldaa
