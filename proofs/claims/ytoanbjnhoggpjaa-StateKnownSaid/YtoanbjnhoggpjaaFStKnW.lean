/-
  The closed law, evaluated whole.
-/
import Derived.Test.YtoanbjnhoggpjaaFStKo
import Derived.Test.YtoanbjnhoggpjaaRows
namespace Go.Proofs.Ytoanbjnhoggpjaa.StKn
set_option linter.unusedVariables false
set_option linter.unusedSimpArgs false
open Go Go.RowKit Go.Proofs.Ytoanbjnhoggpjaa.Ev
abbrev i (n : Nat) : Value := .int .i64 (.ofNat n)
abbrev b (n : Nat) : Value := .int .u8 (.ofNat n)
abbrev h (n : Nat) : Value := .int .i16 (.ofNat n)
abbrev w (n : Nat) : Value := .int .i32 (.ofNat n)
abbrev u : Value := .tuple (Array.mk [])
abbrev t : Value := .bool true
abbrev f : Value := .bool false
abbrev p (k o : Nat) : Value := .pointer (some ⟨k, o, none⟩)
abbrev s (k o n c : Nat) : Value := .slice (some ⟨k, o, none⟩) n c
abbrev z : TV := .nil
abbrev z' : Tr := .nil
abbrev T (v : Value) (l r : TV) : TV := .node v l r
abbrev H (v : AObj) (l r : Tr) : Tr := .node v l r
abbrev N : Mk := .no
abbrev K (l r : Mk) : Mk := .node true l r
abbrev D (l r : Mk) : Mk := .node false l r
theorem hm : Try.prog.follows .mixedOrders = true := by kernel_rfl
noncomputable def F : Nat := 1000
noncomputable def cl : Caller := orcF (Go.Proofs.Ytoanbjnhoggpjaa.stOr 16 17 18) (evFn Try.prog 0 F 19)
noncomputable def c0 : Code := match Try.f3.body with | some c => c | none => .skip
noncomputable def s0 : Ev.St := ⟨.nil, 119, .nil, 0⟩
noncomputable def r1 : Option (List (X × Ev.St)) := (evCode Try.prog 0 cl F c0 s0).map (forgets (K (K (D N (K N (K N N))) (K N N)) (K (D (K N N) (D N (K N N))) (D (D N (K N N)) N))))
noncomputable def s1 : Ev.St := match r1 with | some [(_, s)] => s | _ => s0
set_option maxRecDepth 100000 in
theorem e0 : (evCode Try.prog 0 cl F c0 s0).map (forgets (K (K (D N (K N (K N N))) (K N N)) (K (D (K N N) (D N (K N N))) (D (D N (K N N)) N)))) = some [(.ret, s1)] := by kernel_rfl
theorem whole {W : World} (hcl : CallOk Try.prog 0 W cl) : Goes Try.prog 0 W c0 s0 [(.ret, s1)] := (Goes.ev hm hcl _ e0)
end Go.Proofs.Ytoanbjnhoggpjaa.StKn
