/-
  The laws' own awake: true, whatever the order that the machine draws.
-/
import Derived.Test.YtoanbjnhoggpjaaTnAwW
import Derived.Test.YtoanbjnhoggpjaaClK
namespace Go.Proofs.Ytoanbjnhoggpjaa
set_option linter.unusedSimpArgs false
set_option linter.unusedVariables false
set_option maxRecDepth 100000
open Go.ChangeShapes Go.WideShapes Go.ChangeAt Go.RowKit

theorem awake_true (W : World) : Calls Try.prog 42 #[] W fun e W' => e = .returned (.bool true) ∧ Below W.heap.size W W' :=
  Ev.Goes.true_ (n0 := 0) (c := TnAw.c0) (fn := Try.f42) Try.func42 (by kernel_rfl) (by decide) W (Nat.zero_le _)
    (TnAw.whole (Ev.orc_ok (Ev.evFn_sound (by kernel_rfl) 19) (fun f hf => by cases hf))) (by kernel_rfl)
end Go.Proofs.Ytoanbjnhoggpjaa
