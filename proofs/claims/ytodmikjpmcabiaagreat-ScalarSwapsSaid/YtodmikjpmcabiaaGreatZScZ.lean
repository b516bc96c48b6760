/-
  Tnums, spans, scalars, sums as arguments: opened.
-/
import Derived.Test.YtodmikjpmcabiaaGreatZClK
import Derived.Test.YtodmikjpmcabiaaGreatZScA
import Derived.Lib.SmallJoins
namespace Go.Proofs.YtodmikjpmcabiaaGreat
set_option linter.unusedSimpArgs false
set_option linter.unusedVariables false
set_option maxRecDepth 100000
open Go.ChangeShapes Go.WideShapes Go.ChangeAt Go.RowKit

theorem arrS4 {cs : Array Value} (h : cs.size = 4) : ∃ c0 c1 c2 c3, cs = #[c0, c1, c2, c3] := by
  obtain ⟨l⟩ := cs
  match l, h with
  | [c0, c1, c2, c3], _ => exact ⟨c0, c1, c2, c3, rfl⟩
section
variable {H : Type} {enc : TypeId × Value → H}
theorem u64_at {w : World} {base : Nat} {spare : Nat → Bool} {held : Bool} {n : Nat} {c : Value} {y : DataW H × List MemPlace} (h : DataW.trod enc Tryz.prog w base spare held n 22 [c] = some y) : ∃ x : B64, c = .int .u64 (ub x) := by
  obtain ⟨x, e, _, hw⟩ := DataW.trod_int (k := .u64) Tryz.underlying22 h
  obtain ⟨lo, hi⟩ := bounds_u64 hw
  obtain ⟨z, rfl⟩ := ub_of x lo (by omega)
  exact ⟨z, (List.cons.inj e).1⟩
set_option maxRecDepth 100000 in
theorem span_at {w : World} {base : Nat} {spare : Nat → Bool} {held : Bool} {n : Nat} {c d : Value} {y : DataW H × List MemPlace} (h : DataW.trod enc Tryz.prog w base spare held n 26 [c, d] = some y) : ∃ x z : B64, c = .int .u64 (ub x) ∧ d = .int .u64 (ub z) := by
  obtain ⟨y0, y1, m, _, _, h0, h1⟩ := trod_struct2 Tryz.underlying26 h
  have e0 : DataW.trod enc Tryz.prog w base spare held m 22 [c] = some y0 := h0
  have e1 : DataW.trod enc Tryz.prog w base spare held m 22 [d] = some y1 := h1
  obtain ⟨x, rfl⟩ := u64_at e0
  obtain ⟨z, rfl⟩ := u64_at e1
  exact ⟨x, z, rfl, rfl⟩
set_option maxRecDepth 100000 in
theorem tnum_at {w : World} {base : Nat} {spare : Nat → Bool} {held : Bool} {n : Nat} {c d : Value} {y : DataW H × List MemPlace} (h : DataW.trod enc Tryz.prog w base spare held n 24 [c, d] = some y) : ∃ x z : B64, c = .int .u64 (ub x) ∧ d = .int .u64 (ub z) := by
  obtain ⟨y0, y1, m, _, _, h0, h1⟩ := trod_struct2 Tryz.underlying24 h
  have e0 : DataW.trod enc Tryz.prog w base spare held m 22 [c] = some y0 := h0
  have e1 : DataW.trod enc Tryz.prog w base spare held m 22 [d] = some y1 := h1
  obtain ⟨x, rfl⟩ := u64_at e0
  obtain ⟨z, rfl⟩ := u64_at e1
  exact ⟨x, z, rfl, rfl⟩
set_option maxRecDepth 100000 in
theorem sc_at {w : World} {base : Nat} {spare : Nat → Bool} {held : Bool} {n : Nat} {a b c d : Value} {y : DataW H × List MemPlace} (h : DataW.trod enc Tryz.prog w base spare held n 28 [a, b, c, d] = some y) : ∃ x : Sc, a = .int .u64 (ub x.1.1) ∧ b = .int .u64 (ub x.1.2) ∧ c = .int .u64 (ub x.2.1) ∧ d = .int .u64 (ub x.2.2) := by
  have k1 : Tryz.prog.cellsOf 24 = 2 := by kernel_rfl
  have k2 : Tryz.prog.cellsOf 26 = 2 := by kernel_rfl
  obtain ⟨xs, m, _, hx, _, hlen, hg⟩ := DataW.trod_struct Tryz.underlying28 h
  have hl : xs.length = 2 := hlen
  have g0 : DataW.trod enc Tryz.prog w base spare held m 24 (([a, b, c, d].drop 0).take (Tryz.prog.cellsOf 24)) = xs[0]? := hg 0 _ rfl
  have g1 : DataW.trod enc Tryz.prog w base spare held m 26 (([a, b, c, d].drop 2).take (Tryz.prog.cellsOf 26)) = xs[1]? := hg 1 _ rfl
  rw [k1] at g0
  rw [k2] at g1
  rw [List.getElem?_eq_getElem (by omega)] at g0 g1
  have e0 : DataW.trod enc Tryz.prog w base spare held m 24 [a, b] = some _ := g0
  have e1 : DataW.trod enc Tryz.prog w base spare held m 26 [c, d] = some _ := g1
  obtain ⟨p, q, rfl, rfl⟩ := tnum_at e0
  obtain ⟨r, z, rfl, rfl⟩ := span_at e1
  exact ⟨((p, q), (r, z)), rfl, rfl, rfl, rfl⟩
set_option maxRecDepth 100000 in
theorem open_sc {w : World} {base : Nat} {spare : Nat → Bool} {held : Bool} {r : Reach} {b0 : Nat} {v : Value} {d : DataW H} {p : List MemPlace}
    (hv : Value.okWide Tryz.prog w r b0 28 v) (h : DataW.Trod enc Tryz.prog w base spare held 28 v d p) : ∃ x : Sc, v = sv x := by
  obtain ⟨cs, rfl, hsz⟩ := okWide_struct Tryz.underlying28 hv
  obtain ⟨c0, c1, c2, c3, rfl⟩ := arrS4 (hsz.trans (show Tryz.prog.cellsOf 28 = 4 by kernel_rfl))
  obtain ⟨fuel, hf⟩ := h
  obtain ⟨x, rfl, rfl, rfl, rfl⟩ := sc_at hf
  exact ⟨x, rfl⟩
end
end Go.Proofs.YtodmikjpmcabiaaGreat
