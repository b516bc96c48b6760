/-
  The steps of a closed law, put together.
-/
import Derived.Test.YtbinbjfpjielkaaTnKnT0
namespace Go.Proofs.Ytbinbjfpjielkaa.TnKn
set_option linter.unusedVariables false
set_option linter.unusedSimpArgs false
open Go Go.RowKit Go.Proofs.Ytbinbjfpjielkaa.Ev
set_option maxRecDepth 100000 in
theorem whole {W : World} (hcl : CallOk Try.prog 0 W cl) : Goes Try.prog 0 W c0 s0 [(.ret, s2)] := (Goes.seq (c := c0) (by kernel_rfl) (Goes.ev hm hcl _ e0) (Goes.ev hm hcl _ e1))
end Go.Proofs.Ytbinbjfpjielkaa.TnKn
