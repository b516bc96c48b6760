/-
  The states behind the steps of a closed law (printed by mktpl2.py).
-/
import Derived.Test.YtoanbjnhoggpjaaEvL
import Derived.Test.YtoanbjnhoggpjaaRows
namespace Go.Proofs.Ytoanbjnhoggpjaa.TnAw
set_option linter.unusedVariables false
set_option linter.unusedSimpArgs false
open Go Go.RowKit Go.Proofs.Ytoanbjnhoggpjaa.Ev
abbrev i (n : Nat) : Value := .int .i64 (.ofNat n)
abbrev b (n : Nat) : Value := .int .u8 (.ofNat n)
abbrev h (n : Nat) : Value := .int .i16 (.ofNat n)
abbrev w (n : Nat) : Value := .int .i32 (.ofNat n)
abbrev u : Value := .tuple (Array.mk [])
abbrev t : Value := .bool true
abbrev f : Value := .bool false
abbrev p (k o : Nat) : Value := .pointer (some ⟨k, o, none⟩)
abbrev s (k o n c : Nat) : Value := .slice (some ⟨k, o, none⟩) n c
abbrev z : TV := .nil
abbrev z' : Tr := .nil
abbrev T (v : Value) (l r : TV) : TV := .node v l r
abbrev H (v : AObj) (l r : Tr) : Tr := .node v l r
abbrev N : Mk := .no
abbrev K (l r : Mk) : Mk := .node true l r
abbrev D (l r : Mk) : Mk := .node false l r
theorem hm : Try.prog.follows .mixedOrders = true := by kernel_rfl
noncomputable def F : Nat := 1000
noncomputable def cl : Caller := orc [] (evFn Try.prog 0 F 19)
noncomputable def c0 : Code := match Try.f42.body with | some c => c | none => .skip
noncomputable def s0 : St := ⟨.nil, 75, .nil, 0⟩
noncomputable def c1 : Code := hd c0
noncomputable def s1 : St := ⟨(T f z z), 75, z', 0⟩
noncomputable def c2 : Code := tl c0
noncomputable def c3 : Code := hd c2
noncomputable def s2 : St := ⟨(T f (T (p 14 0) (T u z (T (.agg (Array.mk [(.int .u64 (.ofNat 0)), (.int .u64 (.ofNat 3))])) z z)) (T u (T (.tuple (Array.mk [(.agg (Array.mk [(.int .u64 (.ofNat 0)), (.int .u64 (.ofNat 7))])), (i 0)])) z z) (T (.agg (Array.mk [(.int .u64 (.ofNat 0)), (.int .u64 (.ofNat 7))])) z z))) (T (i 0) (T u z (T (.tuple (Array.mk [(.agg (Array.mk [(.int .u64 (.ofNat 0)), (.int .u64 (.ofNat 7))])), (i 0)])) z z)) (T u (T (.agg (Array.mk [(.int .u64 (.ofNat 1)), (.int .u64 (.ofNat 0))])) z z) (T (i 0) z z)))), 75, (H .dead z' (H .dead z' (H .dead z' (H (.cells [(.int .u64 (.ofNat 0)), (.int .u64 (.ofNat 7))] 24 false) z' z')))), 15⟩
noncomputable def c4 : Code := tl c2
noncomputable def c5 : Code := hd c4
noncomputable def s3 : St := ⟨(T f (T (p 14 0) (T (p 27 0) (T u (T (.tuple (Array.mk [(.agg (Array.mk [(.int .u64 (.ofNat 4)), (.int .u64 (.ofNat 2))])), (i 0)])) z z) z) (T (.agg (Array.mk [(.int .u64 (.ofNat 0)), (.int .u64 (.ofNat 3))])) (T (.agg (Array.mk [(.int .u64 (.ofNat 4)), (.int .u64 (.ofNat 2))])) z z) z)) (T u (T (.tuple (Array.mk [(.agg (Array.mk [(.int .u64 (.ofNat 0)), (.int .u64 (.ofNat 7))])), (i 0)])) (T (.agg (Array.mk [(.int .u64 (.ofNat 6)), (.int .u64 (.ofNat 0))])) z z) z) (T (.agg (Array.mk [(.int .u64 (.ofNat 0)), (.int .u64 (.ofNat 7))])) z z))) (T (i 0) (T (i 0) (T u (T (.agg (Array.mk [(.int .u64 (.ofNat 4)), (.int .u64 (.ofNat 0))])) z z) z) (T (.tuple (Array.mk [(.agg (Array.mk [(.int .u64 (.ofNat 0)), (.int .u64 (.ofNat 7))])), (i 0)])) (T (i 0) z z) z)) (T u (T (.agg (Array.mk [(.int .u64 (.ofNat 1)), (.int .u64 (.ofNat 0))])) (T (.tuple (Array.mk [(.agg (Array.mk [(.int .u64 (.ofNat 4)), (.int .u64 (.ofNat 2))])), (i 0)])) z z) z) (T (i 0) z z)))), 75, (H .dead (H .dead (H .dead z' (H .dead z' (H (.cells [(.int .u64 (.ofNat 4)), (.int .u64 (.ofNat 2))] 24 false) z' z'))) z') (H .dead z' (H .dead z' (H (.cells [(.int .u64 (.ofNat 0)), (.int .u64 (.ofNat 7))] 24 false) z' z')))), 28⟩
noncomputable def c6 : Code := tl c4
noncomputable def c7 : Code := hd c6
noncomputable def s4 : St := ⟨(T f (T (p 14 0) (T (p 27 0) (T u (T (.tuple (Array.mk [(.agg (Array.mk [(.int .u64 (.ofNat 4)), (.int .u64 (.ofNat 2))])), (i 0)])) z z) (T (.agg (Array.mk [(.int .u64 (.ofNat 0)), (.int .u64 (.ofNat 2))])) z z)) (T (.agg (Array.mk [(.int .u64 (.ofNat 0)), (.int .u64 (.ofNat 3))])) (T (.agg (Array.mk [(.int .u64 (.ofNat 4)), (.int .u64 (.ofNat 2))])) z z) z)) (T (p 112 0) (T (.tuple (Array.mk [(.agg (Array.mk [(.int .u64 (.ofNat 0)), (.int .u64 (.ofNat 7))])), (i 0)])) (T (.agg (Array.mk [(.int .u64 (.ofNat 6)), (.int .u64 (.ofNat 0))])) z z) (T (.agg (Array.mk [(.int .u64 (.ofNat 0)), (.int .u64 (.ofNat 6))])) z z)) (T (.agg (Array.mk [(.int .u64 (.ofNat 0)), (.int .u64 (.ofNat 7))])) (T (.tuple (Array.mk [(.agg (Array.mk [(.int .u64 (.ofNat 0)), (.int .u64 (.ofNat 6))])), (i 0)])) z z) z))) (T (i 0) (T (i 0) (T u (T (.agg (Array.mk [(.int .u64 (.ofNat 4)), (.int .u64 (.ofNat 0))])) z z) (T (.tuple (Array.mk [(.agg (Array.mk [(.int .u64 (.ofNat 0)), (.int .u64 (.ofNat 6))])), (i 0)])) z z)) (T (.tuple (Array.mk [(.agg (Array.mk [(.int .u64 (.ofNat 0)), (.int .u64 (.ofNat 7))])), (i 0)])) (T (i 0) z z) z)) (T (i 0) (T (.agg (Array.mk [(.int .u64 (.ofNat 1)), (.int .u64 (.ofNat 0))])) (T (.tuple (Array.mk [(.agg (Array.mk [(.int .u64 (.ofNat 4)), (.int .u64 (.ofNat 2))])), (i 0)])) z z) (T (i 0) z z)) (T (i 0) (T (.agg (Array.mk [(.int .u64 (.ofNat 3)), (.int .u64 (.ofNat 0))])) z z) z)))), 75, (H .dead (H .dead (H .dead z' (H .dead z' (H (.cells [(.int .u64 (.ofNat 4)), (.int .u64 (.ofNat 2))] 24 false) z' z'))) z') (H .dead (H .dead (H .dead (H .dead z' (H .dead z' (H (.cells [(.int .u64 (.ofNat 0)), (.int .u64 (.ofNat 6))] 24 false) z' z'))) z') z') (H .dead z' (H (.cells [(.int .u64 (.ofNat 0)), (.int .u64 (.ofNat 7))] 24 false) z' z')))), 113⟩
noncomputable def c8 : Code := tl c6
noncomputable def s5 : St := ⟨(T t (T (p 14 0) (T (p 27 0) (T (p 123 0) (T (.tuple (Array.mk [(.agg (Array.mk [(.int .u64 (.ofNat 4)), (.int .u64 (.ofNat 2))])), (i 0)])) (T (i 0) (T (.agg (Array.mk [(.int .u64 (.ofNat 0)), (.int .u64 (.ofNat 4160749568))])) z z) z) (T t z z)) (T (.agg (Array.mk [(.int .u64 (.ofNat 0)), (.int .u64 (.ofNat 2))])) (T t (T (.agg (Array.mk [(.int .u64 (.ofNat 4)), (.int .u64 (.ofNat 2))])) z z) z) (T t z z))) (T (.agg (Array.mk [(.int .u64 (.ofNat 0)), (.int .u64 (.ofNat 3))])) (T (.agg (Array.mk [(.int .u64 (.ofNat 4)), (.int .u64 (.ofNat 2))])) (T (.agg (Array.mk [(.int .u64 (.ofNat 0)), (.int .u64 (.ofNat 7))])) (T (.agg (Array.mk [(.int .u64 (.ofNat 4)), (.int .u64 (.ofNat 2))])) z z) z) (T t z z)) (T (.tuple (Array.mk [(.agg (Array.mk [(.int .u64 (.ofNat 0)), (.int .u64 (.ofNat 4160749568))])), (i 0)])) (T t z z) (T t z z)))) (T (p 112 0) (T (.tuple (Array.mk [(.agg (Array.mk [(.int .u64 (.ofNat 0)), (.int .u64 (.ofNat 7))])), (i 0)])) (T (.agg (Array.mk [(.int .u64 (.ofNat 6)), (.int .u64 (.ofNat 0))])) (T t (T t z z) z) (T (i 0) z z)) (T (.agg (Array.mk [(.int .u64 (.ofNat 0)), (.int .u64 (.ofNat 6))])) (T t (T t z z) z) (T t z z))) (T (.agg (Array.mk [(.int .u64 (.ofNat 0)), (.int .u64 (.ofNat 7))])) (T (.tuple (Array.mk [(.agg (Array.mk [(.int .u64 (.ofNat 0)), (.int .u64 (.ofNat 6))])), (i 0)])) (T t (T t z z) z) (T (.agg (Array.mk [(.int .u64 (.ofNat 0)), (.int .u64 (.ofNat 6))])) z z)) (T (.tuple (Array.mk [(.agg (Array.mk [(.int .u64 (.ofNat 0)), (.int .u64 (.ofNat 4160749568))])), (i 0)])) (T (.agg (Array.mk [(.int .u64 (.ofNat 4)), (.int .u64 (.ofNat 2))])) z z) (T t z z))))) (T (i 0) (T (i 0) (T (i 0) (T (.agg (Array.mk [(.int .u64 (.ofNat 4)), (.int .u64 (.ofNat 0))])) (T (i 0) (T t z z) z) (T t z z)) (T (.tuple (Array.mk [(.agg (Array.mk [(.int .u64 (.ofNat 0)), (.int .u64 (.ofNat 6))])), (i 0)])) (T (i 0) (T f z z) z) (T t z z))) (T (.tuple (Array.mk [(.agg (Array.mk [(.int .u64 (.ofNat 0)), (.int .u64 (.ofNat 7))])), (i 0)])) (T (i 0) (T (.agg (Array.mk [(.int .u64 (.ofNat 0)), (.int .u64 (.ofNat 7))])) (T t z z) z) (T t z z)) (T (.agg (Array.mk [(.int .u64 (.ofNat 0)), (.int .u64 (.ofNat 2147483648))])) (T (.agg (Array.mk [(.int .u64 (.ofNat 4)), (.int .u64 (.ofNat 2))])) z z) (T t z z)))) (T (i 0) (T (.agg (Array.mk [(.int .u64 (.ofNat 1)), (.int .u64 (.ofNat 0))])) (T (.tuple (Array.mk [(.agg (Array.mk [(.int .u64 (.ofNat 4)), (.int .u64 (.ofNat 2))])), (i 0)])) (T t (T t z z) z) (T t z z)) (T (i 0) (T t (T t z z) z) (T (i 0) z z))) (T (i 0) (T (.agg (Array.mk [(.int .u64 (.ofNat 3)), (.int .u64 (.ofNat 0))])) (T t (T t z z) z) (T (.agg (Array.mk [(.int .u64 (.ofNat 0)), (.int .u64 (.ofNat 6))])) z z)) (T (.agg (Array.mk [(.int .u64 (.ofNat 0)), (.int .u64 (.ofNat 4160749568))])) (T t z z) (T (.agg (Array.mk [(.int .u64 (.ofNat 0)), (.int .u64 (.ofNat 4160749568))])) z z)))))), 75, (H .dead (H .dead (H .dead z' (H .dead z' (H (.cells [(.int .u64 (.ofNat 4)), (.int .u64 (.ofNat 2))] 24 false) z' (H .dead z' (H (.cells [(.int .u64 (.ofNat 0)), (.int .u64 (.ofNat 4160749568))] 24 false) z' z'))))) z') (H .dead (H .dead (H .dead (H .dead z' (H .dead z' (H (.cells [(.int .u64 (.ofNat 0)), (.int .u64 (.ofNat 6))] 24 false) z' z'))) z') z') (H .dead z' (H (.cells [(.int .u64 (.ofNat 0)), (.int .u64 (.ofNat 7))] 24 false) z' z')))), 128⟩
end Go.Proofs.Ytoanbjnhoggpjaa.TnAw
