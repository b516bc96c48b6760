/-
  What is given, as an argument: opened.
-/
import Derived.Test.YtoanbjnhoggpjaaClK
import Derived.Test.YtoanbjnhoggpjaaTnP
import Derived.Lib.SmallJoins
namespace Go.Proofs.Ytoanbjnhoggpjaa
set_option linter.unusedSimpArgs false
set_option linter.unusedVariables false
open Go.ChangeShapes Go.WideShapes Go.ChangeAt Go.RowKit

theorem arr8 {cs : Array Value} (h : cs.size = 8) : ∃ c0 c1 c2 c3 c4 c5 c6 c7, cs = #[c0, c1, c2, c3, c4, c5, c6, c7] := by
  obtain ⟨l⟩ := cs
  match l, h with
  | [c0, c1, c2, c3, c4, c5, c6, c7], _ => exact ⟨c0, c1, c2, c3, c4, c5, c6, c7, rfl⟩
section
variable {H : Type} {enc : TypeId × Value → H}
theorem u64_of {w : World} {base : Nat} {spare : Nat → Bool} {held : Bool} {n : Nat} {c : Value} {y : DataW H × List MemPlace} (h : DataW.trod enc Try.prog w base spare held n 22 [c] = some y) : ∃ x : B64, c = .int .u64 (ub x) := by
  obtain ⟨x, e, _, hw⟩ := DataW.trod_int (k := .u64) Try.underlying22 h
  obtain ⟨lo, hi⟩ := bounds_u64 hw
  obtain ⟨z, rfl⟩ := ub_of x lo (by omega)
  exact ⟨z, (List.cons.inj e).1⟩
set_option maxRecDepth 100000 in
theorem span_of {w : World} {base : Nat} {spare : Nat → Bool} {held : Bool} {n : Nat} {c d : Value} {y : DataW H × List MemPlace} (h : DataW.trod enc Try.prog w base spare held n 26 [c, d] = some y) : ∃ x z : B64, c = .int .u64 (ub x) ∧ d = .int .u64 (ub z) := by
  obtain ⟨y0, y1, m, _, _, h0, h1⟩ := trod_struct2 Try.underlying26 h
  have e0 : DataW.trod enc Try.prog w base spare held m 22 [c] = some y0 := h0
  have e1 : DataW.trod enc Try.prog w base spare held m 22 [d] = some y1 := h1
  obtain ⟨x, rfl⟩ := u64_of e0
  obtain ⟨z, rfl⟩ := u64_of e1
  exact ⟨x, z, rfl, rfl⟩
set_option maxRecDepth 100000 in
theorem open_given {w : World} {base : Nat} {spare : Nat → Bool} {held : Bool} {r : Reach} {b0 : Nat} {v : Value} {d : DataW H} {p : List MemPlace}
    (hv : Value.okWide Try.prog w r b0 75 v) (h : DataW.Trod enc Try.prog w base spare held 75 v d p) :
    ∃ (op : Int) (c : Bool) (a1 a2 b1 b2 x y : B64), v = .agg #[.int .i64 op, .bool c, .int .u64 (ub a1), .int .u64 (ub a2), .int .u64 (ub b1), .int .u64 (ub b2), .int .u64 (ub x), .int .u64 (ub y)] := by
  obtain ⟨cs, rfl, hsz⟩ := okWide_struct Try.underlying75 hv
  obtain ⟨c0, c1, c2, c3, c4, c5, c6, c7, rfl⟩ := arr8 (hsz.trans (show Try.prog.cellsOf 75 = 8 by kernel_rfl))
  obtain ⟨fuel, hf⟩ := h
  obtain ⟨xs, n, _, hx, _, hlen, hg⟩ := DataW.trod_struct Try.underlying75 hf
  have k1 : Try.prog.cellsOf 3 = 1 := by kernel_rfl
  have k2 : Try.prog.cellsOf 4 = 1 := by kernel_rfl
  have k3 : Try.prog.cellsOf 26 = 2 := by kernel_rfl
  have k4 : Try.prog.cellsOf 22 = 1 := by kernel_rfl
  have hl : xs.length = 6 := hlen
  have g0 : DataW.trod enc Try.prog w base spare held n 3 (([c0, c1, c2, c3, c4, c5, c6, c7].drop 0).take (Try.prog.cellsOf 3)) = xs[0]? := hg 0 _ rfl
  have g1 : DataW.trod enc Try.prog w base spare held n 4 (([c0, c1, c2, c3, c4, c5, c6, c7].drop 1).take (Try.prog.cellsOf 4)) = xs[1]? := hg 1 _ rfl
  have g2 : DataW.trod enc Try.prog w base spare held n 26 (([c0, c1, c2, c3, c4, c5, c6, c7].drop 2).take (Try.prog.cellsOf 26)) = xs[2]? := hg 2 _ rfl
  have g3 : DataW.trod enc Try.prog w base spare held n 26 (([c0, c1, c2, c3, c4, c5, c6, c7].drop 4).take (Try.prog.cellsOf 26)) = xs[3]? := hg 3 _ rfl
  have g4 : DataW.trod enc Try.prog w base spare held n 22 (([c0, c1, c2, c3, c4, c5, c6, c7].drop 6).take (Try.prog.cellsOf 22)) = xs[4]? := hg 4 _ rfl
  have g5 : DataW.trod enc Try.prog w base spare held n 22 (([c0, c1, c2, c3, c4, c5, c6, c7].drop 7).take (Try.prog.cellsOf 22)) = xs[5]? := hg 5 _ rfl
  rw [k1] at g0
  rw [k2] at g1
  rw [k3] at g2 g3
  rw [k4] at g4 g5
  rw [List.getElem?_eq_getElem (by omega)] at g0 g1 g2 g3 g4 g5
  have e0 : DataW.trod enc Try.prog w base spare held n 3 [c0] = some _ := g0
  have e1 : DataW.trod enc Try.prog w base spare held n 4 [c1] = some _ := g1
  have e2 : DataW.trod enc Try.prog w base spare held n 26 [c2, c3] = some _ := g2
  have e3 : DataW.trod enc Try.prog w base spare held n 26 [c4, c5] = some _ := g3
  have e4 : DataW.trod enc Try.prog w base spare held n 22 [c6] = some _ := g4
  have e5 : DataW.trod enc Try.prog w base spare held n 22 [c7] = some _ := g5
  obtain ⟨op, f0, _, _⟩ := DataW.trod_int (k := .i64) Try.underlying3 e0
  obtain ⟨c, f1, _⟩ := DataW.trod_bool Try.underlying4 e1
  obtain rfl := (List.cons.inj f0).1
  obtain rfl := (List.cons.inj f1).1
  obtain ⟨a1, a2, rfl, rfl⟩ := span_of e2
  obtain ⟨b1, b2, rfl, rfl⟩ := span_of e3
  obtain ⟨x, rfl⟩ := u64_of e4
  obtain ⟨y, rfl⟩ := u64_of e5
  exact ⟨op, c, a1, a2, b1, b2, x, y, rfl⟩
end
end Go.Proofs.Ytoanbjnhoggpjaa
