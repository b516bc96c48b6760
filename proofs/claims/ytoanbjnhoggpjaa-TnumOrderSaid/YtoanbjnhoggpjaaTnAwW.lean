/-
  The steps of a closed law, put together.
-/
import Derived.Test.YtoanbjnhoggpjaaTnAwT0
namespace Go.Proofs.Ytoanbjnhoggpjaa.TnAw
set_option linter.unusedVariables false
set_option linter.unusedSimpArgs false
open Go Go.RowKit Go.Proofs.Ytoanbjnhoggpjaa.Ev
set_option maxRecDepth 100000 in
theorem whole {W : World} (hcl : CallOk Try.prog 0 W cl) : Goes Try.prog 0 W c0 s0 [(.ret, s5)] := (Goes.seq (c := c0) (by kernel_rfl) (Goes.ev hm hcl _ e0) (Goes.seq (c := c2) (by kernel_rfl) (Goes.ev hm hcl _ e1) (Goes.seq (c := c4) (by kernel_rfl) (Goes.ev hm hcl _ e2) (Goes.seq (c := c6) (by kernel_rfl) (Goes.ev hm hcl _ e3) (Goes.ev hm hcl _ e4)))))
end Go.Proofs.Ytoanbjnhoggpjaa.TnAw
