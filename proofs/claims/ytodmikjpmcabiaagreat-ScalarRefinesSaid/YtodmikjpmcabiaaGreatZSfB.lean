import Derived.Test.YtodmikjpmcabiaaGreatZSfQ
import Derived.Deep.RegionLaw
import Derived.Deep.RegionHeld3
import Derived.BigRegion
namespace Go.Proofs.YtodmikjpmcabiaaGreat
set_option linter.unusedSimpArgs false
set_option linter.unusedVariables false
set_option maxRecDepth 100000
set_option maxRecDepth 100000
open Go.ChangeShapes Go.WideShapes Go.ChangeAt Go.RowKit

abbrev FBx (w W' : World) (a b p q : Sc) (R : Prop) : Prop := SC W' w.heap.size a ∧ SC W' (w.heap.size + 1) b ∧ SC W' (w.heap.size + 1 + 1) p ∧ SC W' (w.heap.size + 1 + 1 + 1) q ∧ R
theorem bmax_right {x y : B64} (h : ub x < ub y) : bmax x y = y := BitVec.eq_of_toNat_eq (by rw [bmax_toNat]; unfold ub at h; omega)
theorem bmax_left {x y : B64} (h : ¬ ub x < ub y) : bmax x y = x := BitVec.eq_of_toNat_eq (by rw [bmax_toNat]; unfold ub at h; omega)
theorem twoB {w : World} (x y : Sc) (o1 o2 : Obj) (h1 : o1 = (.cells #[.int .u64 (ub x.1.1), .int .u64 (ub x.1.2), .int .u64 (ub x.2.1), .int .u64 (ub x.2.2)] 28)) (h2 : o2 = (.cells #[.int .u64 (ub y.1.1), .int .u64 (ub y.1.2), .int .u64 (ub y.2.1), .int .u64 (ub y.2.2)] 28)) : SC ((w.alloc o1).alloc o2).drew w.heap.size x ∧ SC ((w.alloc o1).alloc o2).drew (w.heap.size + 1) y := by
  subst h1 h2
  exact ⟨((SC.new rfl).alloc _).below (below_dr _), (SC.new (by simp)).below (below_dr _)⟩
theorem q_ops {op : Int} (h : Wd.isCond op = true) (k : Bool) : unsI (if k = true then op else oppR op) = 1 ∨ unsI (if k = true then op else oppR op) = 5 ∨ unsI (if k = true then op else oppR op) = 2 ∨ unsI (if k = true then op else oppR op) = 3 ∨ unsI (if k = true then op else oppR op) = 10 ∨ unsI (if k = true then op else oppR op) = 11 ∨ unsI (if k = true then op else oppR op) = 4 ∨ unsI (if k = true then op else oppR op) = 100 := by
  rcases cond_ops h with rfl | rfl | rfl | rfl | rfl | rfl | rfl | rfl | rfl | rfl | rfl <;> cases k <;> decide
end Go.Proofs.YtodmikjpmcabiaaGreat
