/-
  The facts of a closed law's row, each reckoned by itself (at once they take too much memory).
-/
import Derived.Test.YtjcnpjidkimldaaGreatDoorRows
import Derived.JoinedCond
namespace Go.Proofs.YtjcnpjidkimldaaGreatDoor
set_option maxRecDepth 100000
set_option linter.unusedSimpArgs false
namespace flowKnown
theorem k1 : (Rows.flowKnownRow.inPlace == Tryz.pinned.checked.prog.inPlace 3) = true := by kernel_rfl
theorem k2 : (Rows.flowKnownRow.unfollowed == Tryz.pinned.checked.prog.unfollowed 3) = true := by kernel_rfl
theorem k3 : (Rows.flowKnownRow.recurses == Tryz.pinned.checked.prog.recurses 3) = true := by kernel_rfl
theorem k4 : (Rows.flowKnownRow.named == Tryz.pinned.checked.prog.varsNamed 3) = true := by kernel_rfl
theorem facts : joinedFacts Tryz.pinned.checked.prog 3 Tryz.f3 (OpenSpec.ofChange Rows.flowKnownSpec).bare Rows.flowKnownRow = true := by
  unfold joinedFacts
  rw [k1, k2, k3, k4]
  kernel_rfl
end flowKnown
end Go.Proofs.YtjcnpjidkimldaaGreatDoor
