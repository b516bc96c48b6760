/-
  The steps of a closed law, put together.
-/
import Derived.Test.YtpeieokmafpaiabSpKnT0
namespace Go.Proofs.Ytpeieokmafpaiab.SpKn
set_option linter.unusedVariables false
set_option linter.unusedSimpArgs false
open Go Go.RowKit Go.Proofs.Ytpeieokmafpaiab.Ev
set_option maxRecDepth 100000 in
theorem whole {W : World} (hcl : CallOk Try.prog 0 W cl) : Goes Try.prog 0 W c0 s0 [(.ret, s19)] := (Goes.seq (c := c0) (by kernel_rfl) (Goes.ev hm hcl _ e0) (Goes.seq (c := c2) (by kernel_rfl) (Goes.seq (c := c3) (by kernel_rfl) (Goes.ev hm hcl _ e1) (Goes.block (c := c5) 0 (by kernel_rfl) (Goes.loop (c := c6) (by kernel_rfl) (Turns.next (c := c7) (Goes.ev hm hcl _ e2) (Turns.next (c := c7) (Goes.ev hm hcl _ e3) (Turns.next (c := c7) (Goes.ev hm hcl _ e4) (Turns.next (c := c7) (Goes.ev hm hcl _ e5) (Turns.next (c := c7) (Goes.ev hm hcl _ e6) (Turns.next (c := c7) (Goes.ev hm hcl _ e7) (Turns.next (c := c7) (Goes.ev hm hcl _ e8) (Turns.next (c := c7) (Goes.ev hm hcl _ e9) (Turns.next (c := c7) (Goes.ev hm hcl _ e10) (Turns.next (c := c7) (Goes.ev hm hcl _ e11) (Turns.next (c := c7) (Goes.ev hm hcl _ e12) (Turns.next (c := c7) (Goes.ev hm hcl _ e13) (Turns.next (c := c7) (Goes.ev hm hcl _ e14) (Turns.next (c := c7) (Goes.ev hm hcl _ e15) (Turns.next (c := c7) (Goes.ev hm hcl _ e16) (Turns.last (k := 0) (c := c7) rfl (Goes.ev hm hcl _ e17)))))))))))))))))))) (Goes.ev hm hcl _ e18)))
end Go.Proofs.Ytpeieokmafpaiab.SpKn
