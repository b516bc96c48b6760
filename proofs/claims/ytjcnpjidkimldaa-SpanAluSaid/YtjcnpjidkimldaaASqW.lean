/-
  SpanAlu: the law's walk.
-/
import Derived.Test.YtjcnpjidkimldaaASqJ
import Derived.Test.YtjcnpjidkimldaaASpW
import Derived.Test.YtjcnpjidkimldaaASpZ
namespace Go.Proofs.Ytjcnpjidkimldaa
set_option linter.unusedSimpArgs false
set_option linter.unusedVariables false
set_option maxRecDepth 100000
set_option maxRecDepth 100000
open Go.ChangeShapes Go.WideShapes Go.ChangeAt Go.RowKit Sq

namespace Sq
/-- A box with two spans. -/
def B4 (w : World) (b : Nat) (x y : Tn) : Prop := b < w.heap.size ∧ w.cell? ⟨b, 0, none⟩ = some (.int .u64 (ub x.1)) ∧ w.cell? ⟨b, 1, none⟩ = some (.int .u64 (ub x.2)) ∧ w.cell? ⟨b, 2, none⟩ = some (.int .u64 (ub y.1)) ∧ w.cell? ⟨b, 3, none⟩ = some (.int .u64 (ub y.2))
theorem B4.below {w w' : World} {b : Nat} {x y : Tn} (h : B4 w b x y) (hb : Below w.heap.size w w') : B4 w' b x y :=
  ⟨Nat.lt_of_lt_of_le h.1 hb.size, (hb.cell h.1).trans h.2.1, (hb.cell h.1).trans h.2.2.1, (hb.cell h.1).trans h.2.2.2.1, (hb.cell h.1).trans h.2.2.2.2⟩
end Sq
set_option maxHeartbeats 4000000 in
theorem spanAlu_walk (op : Int) (c : Bool) (A B : Tn) (w : World) :
    Calls Try.prog 3 #[.int .i64 op, .bool c, .agg #[.int .u64 (ub A.1), .int .u64 (ub A.2), .int .u64 (ub B.1), .int .u64 (ub B.2)]] w fun e w' => e = .returned (.bool true) ∧ Below w.heap.size w w' := by
  have X1 := fun W => sAlu_any op c A B W
  have X2 := fun W => qAlu_any op c A B W
  have HW := hid wakes_true
  generalize aluT op c A B = M at *
  generalize aluE op A B = E at *
  have EM := eq_span M.1 M.2
  unfold tv at X1 X2
  replace X1 := hid X1
  replace X2 := hid X2
  have I0 : B4 (w.alloc (.cells #[.int .u64 (ub A.1), .int .u64 (ub A.2), .int .u64 (ub B.1), .int .u64 (ub B.2)] 25)) w.heap.size A B := ⟨by simp, by simp, by simp, by simp, by simp⟩
  have Z0 : Below w.heap.size w (w.alloc (.cells #[.int .u64 (ub A.1), .int .u64 (ub A.2), .int .u64 (ub B.1), .int .u64 (ub B.2)] 25)) := (Below.refl _ _).alloc (Nat.le_refl _) _
  have I1 := hid I0
  have Z1 := hid Z0
  clear I0 Z0
  go_enter Try.func3, Try.ntmps3
  go_wp2_with fail
  refine (X1.out _).mono ?_
  rintro e w1 ⟨rfl, z⟩
  have I2 := hid ((I1.out.below z).below ((Below.refl _ _).alloc (Nat.le_refl _) (.cells #[.int .u64 (ub M.1), .int .u64 (ub M.2)] 24)))
  have Z2 := hid ((Z1.out.trans (z.mono Z1.out.size)).alloc (Nat.le_trans Z1.out.size z.size) (.cells #[.int .u64 (ub M.1), .int .u64 (ub M.2)] 24))
  have A1 := hid (TC.new (a := M) (w := w1) (t := 24) rfl)
  clear I1 Z1 z
  have p0 := I2.out.2.1
  have p1 := I2.out.2.2.1
  have p2 := I2.out.2.2.2.1
  have p3 := I2.out.2.2.2.2
  go_wp2_with fail
  clear p0 p1 p2 p3
  refine (X2.out _).mono ?_
  rintro e w2 ⟨rfl, z⟩
  have A2 := hid ((A1.out.below z).alloc (.cells #[.int .u64 (ub M.1), .int .u64 (ub M.2)] 24))
  have Z3 := hid ((Z2.out.trans (z.mono Z2.out.size)).alloc (Nat.le_trans Z2.out.size z.size) (.cells #[.int .u64 (ub M.1), .int .u64 (ub M.2)] 24))
  clear I2 Z2 z A1
  have p0 := A2.out.2.1
  have p1 := A2.out.2.2
  go_wp2_with fail
  refine (HW.out _).mono ?_
  rintro e w3 ⟨rfl, z⟩
  have Z4 := hid (Z3.out.trans (z.mono Z3.out.size))
  clear z Z3 A2 p0 p1
  go_wp2
  go_ret
  exact ⟨rfl, Z4.out⟩
end Go.Proofs.Ytjcnpjidkimldaa
