/-
  The steps of a closed law, put together.
-/
import Derived.Test.YtodmikjpmcabiabDoorDGw2T0
import Derived.Test.YtodmikjpmcabiabDoorDGw2T1
namespace Go.Proofs.YtodmikjpmcabiabDoor.GrW2
set_option linter.unusedVariables false
set_option maxRecDepth 100000
set_option linter.unusedSimpArgs false
open Go Go.RowKit Go.Proofs.YtodmikjpmcabiabDoor.Ev
set_option maxRecDepth 100000 in
theorem whole {W : World} (hcl : CallOk Tryd.prog 0 W cl) : Goes Tryd.prog 0 W c0 s0 [(.ret, s7)] := (Goes.seq (c := c0) (by kernel_rfl) (Goes.ev hm hcl _ e0) (Goes.seq (c := c2) (by kernel_rfl) (Goes.ev hm hcl _ e1) (Goes.seq (c := c4) (by kernel_rfl) (Goes.ev hm hcl _ e2) (Goes.seq (c := c6) (by kernel_rfl) (Goes.ev hm hcl _ e3) (Goes.seq (c := c8) (by kernel_rfl) (Goes.ev hm hcl _ e4) (Goes.seq (c := c10) (by kernel_rfl) (Goes.ev hm hcl _ e5) (Goes.ev hm hcl _ e6)))))))
end Go.Proofs.YtodmikjpmcabiabDoor.GrW2
