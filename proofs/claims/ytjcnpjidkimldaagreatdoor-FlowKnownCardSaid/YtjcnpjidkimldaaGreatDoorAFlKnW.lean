/-
  The steps of a closed law, put together.
-/
import Derived.Test.YtjcnpjidkimldaaGreatDoorAFlKnT0
import Derived.Test.YtjcnpjidkimldaaGreatDoorAFlKnT1
import Derived.Test.YtjcnpjidkimldaaGreatDoorAFlKnT2
import Derived.Test.YtjcnpjidkimldaaGreatDoorAFlKnT3
import Derived.Test.YtjcnpjidkimldaaGreatDoorAFlKnT4
import Derived.Test.YtjcnpjidkimldaaGreatDoorAFlKnT5
namespace Go.Proofs.YtjcnpjidkimldaaGreatDoor.FlKn
set_option linter.unusedVariables false
set_option maxRecDepth 100000
set_option linter.unusedSimpArgs false
open Go Go.RowKit Go.Proofs.YtjcnpjidkimldaaGreatDoor.Ev
set_option maxRecDepth 100000 in
theorem whole {W : World} (hcl : CallOk Tryz.prog 1 W cl) : Goes Tryz.prog 1 W c0 s0 [(.ret, s11)] := (Goes.seq (c := c0) (by kernel_rfl) (Goes.ev hm hcl _ e0) (Goes.seq (c := c2) (by kernel_rfl) (Goes.ev hm hcl _ e1) (Goes.seq (c := c4) (by kernel_rfl) (Goes.ev hm hcl _ e2) (Goes.seq (c := c6) (by kernel_rfl) (Goes.ev hm hcl _ e3) (Goes.seq (c := c8) (by kernel_rfl) (Goes.ev hm hcl _ e4) (Goes.seq (c := c10) (by kernel_rfl) (Goes.ev hm hcl _ e5) (Goes.seq (c := c12) (by kernel_rfl) (Goes.ev hm hcl _ e6) (Goes.seq (c := c14) (by kernel_rfl) (Goes.ev hm hcl _ e7) (Goes.seq (c := c16) (by kernel_rfl) (Goes.ev hm hcl _ e8) (Goes.seq (c := c18) (by kernel_rfl) (Goes.ev hm hcl _ e9) (Goes.ev hm hcl _ e10)))))))))))
end Go.Proofs.YtjcnpjidkimldaaGreatDoor.FlKn
