import Derived.Test.YtodmikjpmcabiaaGreatZClK
import Derived.Test.YtodmikjpmcabiaaGreatZScA
import Derived.Lib.SmallJoins
namespace Go.Proofs.YtodmikjpmcabiaaGreat
set_option linter.unusedSimpArgs false
set_option linter.unusedVariables false
set_option maxRecDepth 100000
open Go.ChangeShapes Go.WideShapes Go.ChangeAt Go.RowKit

theorem arrS10 {cs : Array Value} (h : cs.size = 10) : ∃ c0 c1 c2 c3 c4 c5 c6 c7 c8 c9, cs = #[c0, c1, c2, c3, c4, c5, c6, c7, c8, c9] := by
  obtain ⟨l⟩ := cs
  match l, h with
  | [c0, c1, c2, c3, c4, c5, c6, c7, c8, c9], _ => exact ⟨c0, c1, c2, c3, c4, c5, c6, c7, c8, c9, rfl⟩
section
variable {H : Type} {enc : TypeId × Value → H}
theorem u64_at {w : World} {base : Nat} {spare : Nat → Bool} {held : Bool} {n : Nat} {c : Value} {y : DataW H × List MemPlace} (h : DataW.trod enc Tryz.prog w base spare held n 22 [c] = some y) : ∃ x : B64, c = .int .u64 (ub x) := by
  obtain ⟨x, e, _, hw⟩ := DataW.trod_int (k := .u64) Tryz.underlying22 h
  obtain ⟨lo, hi⟩ := bounds_u64 hw
  obtain ⟨z, rfl⟩ := ub_of x lo (by omega)
  exact ⟨z, (List.cons.inj e).1⟩
set_option maxRecDepth 100000 in
theorem span_at {w : World} {base : Nat} {spare : Nat → Bool} {held : Bool} {n : Nat} {c d : Value} {y : DataW H × List MemPlace} (h : DataW.trod enc Tryz.prog w base spare held n 26 [c, d] = some y) : ∃ x z : B64, c = .int .u64 (ub x) ∧ d = .int .u64 (ub z) := by
  obtain ⟨y0, y1, m, _, _, h0, h1⟩ := trod_struct2 Tryz.underlying26 h
  have e0 : DataW.trod enc Tryz.prog w base spare held m 22 [c] = some y0 := h0
  have e1 : DataW.trod enc Tryz.prog w base spare held m 22 [d] = some y1 := h1
  obtain ⟨x, rfl⟩ := u64_at e0
  obtain ⟨z, rfl⟩ := u64_at e1
  exact ⟨x, z, rfl, rfl⟩
set_option maxRecDepth 100000 in
theorem tnum_at {w : World} {base : Nat} {spare : Nat → Bool} {held : Bool} {n : Nat} {c d : Value} {y : DataW H × List MemPlace} (h : DataW.trod enc Tryz.prog w base spare held n 24 [c, d] = some y) : ∃ x z : B64, c = .int .u64 (ub x) ∧ d = .int .u64 (ub z) := by
  obtain ⟨y0, y1, m, _, _, h0, h1⟩ := trod_struct2 Tryz.underlying24 h
  have e0 : DataW.trod enc Tryz.prog w base spare held m 22 [c] = some y0 := h0
  have e1 : DataW.trod enc Tryz.prog w base spare held m 22 [d] = some y1 := h1
  obtain ⟨x, rfl⟩ := u64_at e0
  obtain ⟨z, rfl⟩ := u64_at e1
  exact ⟨x, z, rfl, rfl⟩
set_option maxRecDepth 100000 in
theorem sc_at {w : World} {base : Nat} {spare : Nat → Bool} {held : Bool} {n : Nat} {a b c d : Value} {y : DataW H × List MemPlace} (h : DataW.trod enc Tryz.prog w base spare held n 28 [a, b, c, d] = some y) : ∃ x : Sc, a = .int .u64 (ub x.1.1) ∧ b = .int .u64 (ub x.1.2) ∧ c = .int .u64 (ub x.2.1) ∧ d = .int .u64 (ub x.2.2) := by
  have k1 : Tryz.prog.cellsOf 24 = 2 := by kernel_rfl
  have k2 : Tryz.prog.cellsOf 26 = 2 := by kernel_rfl
  obtain ⟨xs, m, _, hx, _, hlen, hg⟩ := DataW.trod_struct Tryz.underlying28 h
  have hl : xs.length = 2 := hlen
  have g0 : DataW.trod enc Tryz.prog w base spare held m 24 (([a, b, c, d].drop 0).take (Tryz.prog.cellsOf 24)) = xs[0]? := hg 0 _ rfl
  have g1 : DataW.trod enc Tryz.prog w base spare held m 26 (([a, b, c, d].drop 2).take (Tryz.prog.cellsOf 26)) = xs[1]? := hg 1 _ rfl
  rw [k1] at g0
  rw [k2] at g1
  rw [List.getElem?_eq_getElem (by omega)] at g0 g1
  have e0 : DataW.trod enc Tryz.prog w base spare held m 24 [a, b] = some _ := g0
  have e1 : DataW.trod enc Tryz.prog w base spare held m 26 [c, d] = some _ := g1
  obtain ⟨p, q, rfl, rfl⟩ := tnum_at e0
  obtain ⟨r, z, rfl, rfl⟩ := span_at e1
  exact ⟨((p, q), (r, z)), rfl, rfl, rfl, rfl⟩
def sumV (op : Int) (c : Bool) (a b : Sc) : Value := .agg #[.int .i64 op, .bool c, .int .u64 (ub a.1.1), .int .u64 (ub a.1.2), .int .u64 (ub a.2.1), .int .u64 (ub a.2.2), .int .u64 (ub b.1.1), .int .u64 (ub b.1.2), .int .u64 (ub b.2.1), .int .u64 (ub b.2.2)]
set_option maxRecDepth 100000 in
theorem open_sum {w : World} {base : Nat} {spare : Nat → Bool} {held : Bool} {r : Reach} {b0 : Nat} {v : Value} {d : DataW H} {p : List MemPlace}
    (hv : Value.okWide Tryz.prog w r b0 49 v) (h : DataW.Trod enc Tryz.prog w base spare held 49 v d p) : ∃ (op : Int) (c : Bool) (a b : Sc), v = sumV op c a b := by
  obtain ⟨cs, rfl, hsz⟩ := okWide_struct Tryz.underlying49 hv
  obtain ⟨c0, c1, c2, c3, c4, c5, c6, c7, c8, c9, rfl⟩ := arrS10 (hsz.trans (show Tryz.prog.cellsOf 49 = 10 by kernel_rfl))
  obtain ⟨fuel, hf⟩ := h
  obtain ⟨xs, n, _, hx, _, hlen, hg⟩ := DataW.trod_struct Tryz.underlying49 hf
  have k1 : Tryz.prog.cellsOf 3 = 1 := by kernel_rfl
  have k2 : Tryz.prog.cellsOf 4 = 1 := by kernel_rfl
  have k3 : Tryz.prog.cellsOf 28 = 4 := by kernel_rfl
  have hl : xs.length = 4 := hlen
  have g0 : DataW.trod enc Tryz.prog w base spare held n 3 (([c0, c1, c2, c3, c4, c5, c6, c7, c8, c9].drop 0).take (Tryz.prog.cellsOf 3)) = xs[0]? := hg 0 _ rfl
  rw [k1] at g0
  have g1 : DataW.trod enc Tryz.prog w base spare held n 4 (([c0, c1, c2, c3, c4, c5, c6, c7, c8, c9].drop 1).take (Tryz.prog.cellsOf 4)) = xs[1]? := hg 1 _ rfl
  rw [k2] at g1
  have g2 : DataW.trod enc Tryz.prog w base spare held n 28 (([c0, c1, c2, c3, c4, c5, c6, c7, c8, c9].drop 2).take (Tryz.prog.cellsOf 28)) = xs[2]? := hg 2 _ rfl
  rw [k3] at g2
  have g3 : DataW.trod enc Tryz.prog w base spare held n 28 (([c0, c1, c2, c3, c4, c5, c6, c7, c8, c9].drop 6).take (Tryz.prog.cellsOf 28)) = xs[3]? := hg 3 _ rfl
  rw [k3] at g3
  rw [List.getElem?_eq_getElem (by omega)] at g0 g1 g2 g3
  have e0 : DataW.trod enc Tryz.prog w base spare held n 3 [c0] = some _ := g0
  have e1 : DataW.trod enc Tryz.prog w base spare held n 4 [c1] = some _ := g1
  have e2 : DataW.trod enc Tryz.prog w base spare held n 28 [c2, c3, c4, c5] = some _ := g2
  have e3 : DataW.trod enc Tryz.prog w base spare held n 28 [c6, c7, c8, c9] = some _ := g3
  obtain ⟨op, f0, _, _⟩ := DataW.trod_int (k := .i64) Tryz.underlying3 e0
  obtain ⟨c, f1, _⟩ := DataW.trod_bool Tryz.underlying4 e1
  obtain rfl := (List.cons.inj f0).1
  obtain rfl := (List.cons.inj f1).1
  obtain ⟨a, rfl, rfl, rfl, rfl⟩ := sc_at e2
  obtain ⟨b, rfl, rfl, rfl, rfl⟩ := sc_at e3
  exact ⟨op, c, a, b, rfl⟩
end
end Go.Proofs.YtodmikjpmcabiaaGreat
