/-
  Contracts of graph's closures that ask whether a place is a start.
-/
import Derived.Test.YtodmikjpmcabiabDoorDGrB
namespace Go.Proofs.YtodmikjpmcabiabDoor
set_option linter.unusedSimpArgs false
set_option linter.unusedVariables false
set_option maxRecDepth 100000
open Go.ChangeShapes Go.WideShapes Go.ChangeAt Go.RowKit

theorem gnext1_I (p : Option Addr) (cap bx : Nat) (c : List I5) (k : Nat) (hk : k ≤ c.length) (w : World) (hz : SzOk w) (hsl : CdSl w.heap.size w p c.length c) (hc : w.cell? ⟨bx, 0, none⟩ = some (.slice p c.length cap)) :
    Calls Tryd.prog 26 #[.int .i64 k, .pointer (some ⟨bx, 0, none⟩)] w fun e w' => e = .returned (.bool (stB c k)) ∧ Below w.heap.size w w' := by
  have HG := hid (gbegins_I p cap c k hk w hz hsl)
  clear hz hsl
  go_enter Tryd.func26, Tryd.ntmps26
  go_wp2_with fail
  refine HG.out.mono ?_
  rintro e w1 ⟨rfl, b1⟩
  have HB := hid b1
  clear b1
  go_wp2
  go_ret
  exact ⟨rfl, HB.out⟩
end Go.Proofs.YtodmikjpmcabiabDoor
