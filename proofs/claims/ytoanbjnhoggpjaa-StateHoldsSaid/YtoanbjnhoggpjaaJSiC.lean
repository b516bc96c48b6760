/-
  Contracts of the document's Of, All (layer 11), Nought, InReg (layer 12). Contract of the document's InReg (layer 12). Contracts of the document's Sure, InSlot (layer 12).
-/
import Derived.Test.YtoanbjnhoggpjaaJStD
import Derived.Test.YtoanbjnhoggpjaaJRcC
import Derived.Test.YtoanbjnhoggpjaaJHrU
import Derived.Deep.RegionHeld3
namespace Go.Proofs.Ytoanbjnhoggpjaa
set_option linter.unusedSimpArgs false
set_option linter.unusedVariables false
set_option maxRecDepth 100000
open Go.ChangeShapes Go.WideShapes Go.ChangeAt Go.RowKit Me

end Go.Proofs.Ytoanbjnhoggpjaa

namespace Go.Proofs.Ytoanbjnhoggpjaa
set_option linter.unusedSimpArgs false
set_option linter.unusedVariables false
set_option maxRecDepth 100000
open Go.ChangeShapes Go.WideShapes Go.ChangeAt Go.RowKit Me

end Go.Proofs.Ytoanbjnhoggpjaa

namespace Go.Proofs.Ytoanbjnhoggpjaa
set_option linter.unusedSimpArgs false
set_option linter.unusedVariables false
set_option maxRecDepth 100000
open Go.ChangeShapes Go.WideShapes Go.ChangeAt Go.RowKit Me

theorem bit8_all : ∀ x : Fin 256, ∀ j : Fin 8, (bits .and .u8 ((x.val : Int) / 2 ^ j.val) 1 == 1) = (BitVec.ofNat 8 x.val).getLsbD j.val := by decide +kernel
theorem bit8 (h : B8) (j : Nat) (hj : j < 8) : (bits .and .u8 (vb h / 2 ^ j) 1 == 1) = h.getLsbD j := by
  have := bit8_all ⟨h.toNat, h.isLt⟩ ⟨j, hj⟩
  dsimp only at this
  rw [show BitVec.ofNat 8 h.toNat = h by simp] at this
  exact this
structure KI (w : World) (a b : Sk) (wr : World) : Prop where
  ja : KC wr w.heap.size a
  jb : KC wr (w.heap.size + 1) b
  bel : Below w.heap.size w wr
theorem KI.next {w wr w' : World} {a b : Sk} (h : KI w a b wr) (z : Below wr.heap.size wr w') : KI w a b w' := ⟨h.ja.below z, h.jb.below z, below_next h.bel z⟩
theorem KI.new (w : World) (a b : Sk) : KI w a b ((w.alloc (.cells #[.int .u8 (vb a.h), .int .u8 a.r.k, .bool a.r.l, .int .i64 a.r.m, .int .u64 (ub a.r.s.1.1), .int .u64 (ub a.r.s.1.2), .int .u64 (ub a.r.s.2.1), .int .u64 (ub a.r.s.2.2), .int .i64 a.r.lo, .int .i64 a.r.hi] 34)).alloc (.cells #[.int .u8 (vb b.h), .int .u8 b.r.k, .bool b.r.l, .int .i64 b.r.m, .int .u64 (ub b.r.s.1.1), .int .u64 (ub b.r.s.1.2), .int .u64 (ub b.r.s.2.1), .int .u64 (ub b.r.s.2.2), .int .i64 b.r.lo, .int .i64 b.r.hi] 34)) :=
  ⟨(KC.new (x := a) rfl).alloc _, KC.new (x := b) (by simp), bel_alloc (bel_alloc (Below.refl _ _))⟩
end Go.Proofs.Ytoanbjnhoggpjaa
