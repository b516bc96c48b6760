/-
  The states behind the steps of a closed law (printed by mktpl2.py).
-/
import Derived.Test.YtodmikjpmcabiabDoorDEvL
import Derived.Test.YtodmikjpmcabiabDoorRows
namespace Go.Proofs.YtodmikjpmcabiabDoor.GrW2
set_option linter.unusedVariables false
set_option maxRecDepth 100000
set_option linter.unusedSimpArgs false
open Go Go.RowKit Go.Proofs.YtodmikjpmcabiabDoor.Ev
abbrev i (n : Nat) : Value := .int .i64 (.ofNat n)
abbrev b (n : Nat) : Value := .int .u8 (.ofNat n)
abbrev h (n : Nat) : Value := .int .i16 (.ofNat n)
abbrev w (n : Nat) : Value := .int .i32 (.ofNat n)
abbrev u : Value := .tuple (Array.mk [])
abbrev t : Value := .bool true
abbrev f : Value := .bool false
abbrev p (k o : Nat) : Value := .pointer (some ⟨k, o, none⟩)
abbrev s (k o n c : Nat) : Value := .slice (some ⟨k, o, none⟩) n c
abbrev z : TV := .nil
abbrev z' : Tr := .nil
abbrev T (v : Value) (l r : TV) : TV := .node v l r
abbrev H (v : AObj) (l r : Tr) : Tr := .node v l r
abbrev N : Mk := .no
abbrev K (l r : Mk) : Mk := .node true l r
abbrev D (l r : Mk) : Mk := .node false l r
theorem hm : Tryd.prog.follows .mixedOrders = true := by kernel_rfl
noncomputable def F : Nat := 1000
noncomputable def cl : Caller := orc [] (evFn Tryd.prog 0 F 19)
noncomputable def c0 : Code := match Tryd.f9.body with | some c => c | none => .skip
noncomputable def s0 : St := ⟨.nil, 56, .nil, 0⟩
noncomputable def c1 : Code := hd c0
noncomputable def s1 : St := ⟨(T f z z), 56, z', 0⟩
noncomputable def c2 : Code := tl c0
noncomputable def c3 : Code := hd c2
noncomputable def s2 : St := ⟨(T f (T (s 1 0 5 5) z (T u (T (s 1 0 5 5) z z) z)) (T u (T u (T (.agg (Array.mk [(b 149), (b 0), (b 0), (h 0), (w 0)])) z z) z) z)), 56, (H .dead (H (.cells [(b 21), (b 0), (b 0), (h 2), (w 0), (b 24), (b 0), (b 0), (h 0), (w 0), (b 0), (b 0), (b 0), (h 0), (w 0), (b 149), (b 0), (b 0), (h 0), (w 0), (b 5), (b 0), (b 0), (.int .i16 (.negSucc 3)), (w 0)] 45 false) z' z') z'), 2⟩
noncomputable def c4 : Code := tl c2
noncomputable def c5 : Code := hd c4
noncomputable def s3 : St := ⟨(T f (T (s 1 0 5 5) (T (i 0) z (T (s 1 0 5 5) z z)) (T u (T (s 1 0 5 5) z z) (T (s 116 0 3 3) z z))) (T (s 116 0 3 3) (T u (T (.agg (Array.mk [(b 149), (b 0), (b 0), (h 0), (w 0)])) z z) (T (.tuple (Array.mk [(s 116 0 3 3), (i 0)])) z z)) (T u (T (.tuple (Array.mk [(s 116 0 3 3), (i 0)])) z z) (T (i 0) z z)))), 56, (H .dead (H (.cells [(b 21), (b 0), (b 0), (h 2), (w 0), (b 24), (b 0), (b 0), (h 0), (w 0), (b 0), (b 0), (b 0), (h 0), (w 0), (b 149), (b 0), (b 0), (h 0), (w 0), (b 5), (b 0), (b 0), (.int .i16 (.negSucc 3)), (w 0)] 45 false) z' z') (H .dead (H .dead z' (H .dead (H .dead z' (H .dead z' (H (.cells [(i 0), (i 1), (i 3)] 3 false) z' z'))) z')) z')), 124⟩
noncomputable def c6 : Code := tl c4
noncomputable def c7 : Code := hd c6
noncomputable def s4 : St := ⟨(T f (T (s 1 0 5 5) (T (i 0) (T u (T (.tuple (Array.mk [(i 3), (i 0)])) z z) z) (T (s 1 0 5 5) (T (i 0) z z) z)) (T (i 0) (T (s 1 0 5 5) (T (.tuple (Array.mk [(i 3), (i 0)])) z z) z) (T (s 116 0 3 3) z z))) (T (s 116 0 3 3) (T (i 3) (T (.agg (Array.mk [(b 149), (b 0), (b 0), (h 0), (w 0)])) (T (s 1 0 5 5) z z) z) (T (.tuple (Array.mk [(s 116 0 3 3), (i 0)])) z z)) (T u (T (.tuple (Array.mk [(s 116 0 3 3), (i 0)])) (T (i 3) z z) z) (T (i 0) z z)))), 56, (H .dead (H (.cells [(b 21), (b 0), (b 0), (h 2), (w 0), (b 24), (b 0), (b 0), (h 0), (w 0), (b 0), (b 0), (b 0), (h 0), (w 0), (b 149), (b 0), (b 0), (h 0), (w 0), (b 5), (b 0), (b 0), (.int .i16 (.negSucc 3)), (w 0)] 45 false) z' z') (H .dead (H .dead z' (H .dead (H .dead z' (H .dead z' (H (.cells [(i 0), (i 1), (i 3)] 3 false) z' z'))) z')) z')), 248⟩
noncomputable def c8 : Code := tl c6
noncomputable def c9 : Code := hd c8
noncomputable def s5 : St := ⟨(T f (T (s 1 0 5 5) (T (i 0) (T (i 28) (T (.tuple (Array.mk [(i 3), (i 0)])) z z) (T (.tuple (Array.mk [(.slice none 0 0), (i 28)])) z z)) (T (s 1 0 5 5) (T (i 0) z z) z)) (T (i 0) (T (s 1 0 5 5) (T (.tuple (Array.mk [(i 3), (i 0)])) z z) (T (i 28) z z)) (T (s 116 0 3 3) (T (.agg (Array.mk [(b 5), (b 0), (b 0), (.int .i16 (.negSucc 2)), (w 0)])) z z) z))) (T (s 116 0 3 3) (T (i 3) (T (.agg (Array.mk [(b 149), (b 0), (b 0), (h 0), (w 0)])) (T (s 1 0 5 5) z z) (T (.slice none 0 0) z z)) (T (.tuple (Array.mk [(s 116 0 3 3), (i 0)])) (T (.tuple (Array.mk [(.slice none 0 0), (i 28)])) z z) z)) (T (.slice none 0 0) (T (.tuple (Array.mk [(s 116 0 3 3), (i 0)])) (T (i 3) z z) z) (T (i 0) (T (s 249 0 5 5) z z) z)))), 56, (H .dead (H (.cells [(b 21), (b 0), (b 0), (h 2), (w 0), (b 24), (b 0), (b 0), (h 0), (w 0), (b 0), (b 0), (b 0), (h 0), (w 0), (b 149), (b 0), (b 0), (h 0), (w 0), (b 5), (b 0), (b 0), (.int .i16 (.negSucc 3)), (w 0)] 45 false) z' (H .dead (H .dead z' (H .dead z' (H .dead z' (H .dead z' (H (.cells [(b 21), (b 0), (b 0), (h 2), (w 0), (b 24), (b 0), (b 0), (h 0), (w 0), (b 0), (b 0), (b 0), (h 0), (w 0), (b 5), (b 0), (b 0), (.int .i16 (.negSucc 2)), (w 0), (b 5), (b 0), (b 0), (.int .i16 (.negSucc 3)), (w 0)] 45 false) z' z'))))) z')) (H .dead (H .dead z' (H .dead (H .dead z' (H .dead z' (H (.cells [(i 0), (i 1), (i 3)] 3 false) z' z'))) z')) z')), 369⟩
noncomputable def c10 : Code := tl c8
noncomputable def c11 : Code := hd c10
noncomputable def s6 : St := ⟨(T t (T (s 1 0 5 5) (T (i 0) (T (i 28) (T (.tuple (Array.mk [(i 3), (i 0)])) (T t z z) (T (i 4) z z)) (T (.tuple (Array.mk [(.slice none 0 0), (i 28)])) (T t z z) (T t z z))) (T (s 1 0 5 5) (T (i 0) (T t z z) (T (s 1 0 5 5) z z)) (T t (T t z z) z))) (T (i 0) (T (s 1 0 5 5) (T (.tuple (Array.mk [(i 3), (i 0)])) (T t z z) (T t z z)) (T (i 28) (T t z z) z)) (T (s 116 0 3 3) (T (.agg (Array.mk [(b 5), (b 0), (b 0), (.int .i16 (.negSucc 2)), (w 0)])) (T t z z) (T (s 560 0 2 2) z z)) (T (s 116 0 3 3) (T t z z) z)))) (T (s 116 0 3 3) (T (i 3) (T (.agg (Array.mk [(b 149), (b 0), (b 0), (h 0), (w 0)])) (T (s 1 0 5 5) (T t z z) (T t z z)) (T (.slice none 0 0) (T t z z) z)) (T (.tuple (Array.mk [(s 116 0 3 3), (i 0)])) (T (.tuple (Array.mk [(.slice none 0 0), (i 28)])) (T t z z) (T (s 559 0 2 1208925819614629174706176) z z)) (T t (T t z z) z))) (T (.slice none 0 0) (T (.tuple (Array.mk [(s 116 0 3 3), (i 0)])) (T (i 3) (T (i 0) z z) (T t z z)) (T (i 0) (T (i 28) z z) z)) (T (i 0) (T (s 249 0 5 5) (T (i 3) z z) (T t z z)) (T (s 369 0 3 3) (T (s 1 0 5 5) z z) z))))), 56, (H .dead (H (.cells [(b 21), (b 0), (b 0), (h 2), (w 0), (b 24), (b 0), (b 0), (h 0), (w 0), (b 0), (b 0), (b 0), (h 0), (w 0), (b 149), (b 0), (b 0), (h 0), (w 0), (b 5), (b 0), (b 0), (.int .i16 (.negSucc 3)), (w 0)] 45 false) (H .dead (H .dead (H .dead z' (H .dead z' (H .dead (H .dead (H .dead (H (.cells [(i 1), (i 3)] 3 true) z' z') z') z') z'))) z') z') (H .dead (H .dead (H .dead z' (H .dead z' (H .dead z' (H .dead (H (.cells [(i 0), (i 1), (i 3)] 3 false) z' z') z')))) (H .dead z' (H .dead z' (H .dead z' (H (.cells [(b 21), (b 0), (b 0), (h 2), (w 0), (b 24), (b 0), (b 0), (h 0), (w 0), (b 0), (b 0), (b 0), (h 0), (w 0), (b 5), (b 0), (b 0), (.int .i16 (.negSucc 2)), (w 0), (b 5), (b 0), (b 0), (.int .i16 (.negSucc 3)), (w 0)] 45 false) z' z'))))) z')) (H .dead (H .dead (H .dead (H .dead z' (H .dead z' (H .dead (H .dead (H .dead (H (.cells [(i 1), (i 3)] 3 false) z' z') z') z') z'))) z') (H .dead (H .dead z' (H .dead z' (H (.cells [(i 0), (i 1), (i 3)] 3 false) z' z'))) z')) z')), 561⟩
noncomputable def c12 : Code := tl c10
noncomputable def s7 : St := ⟨(T t (T (s 1 0 5 5) (T (i 0) (T (i 28) (T (.tuple (Array.mk [(i 3), (i 0)])) (T t z z) (T (i 4) z z)) (T (.tuple (Array.mk [(.slice none 0 0), (i 28)])) (T t z z) (T t z z))) (T (s 1 0 5 5) (T (i 0) (T t z z) (T (s 1 0 5 5) z z)) (T t (T t z z) z))) (T (i 0) (T (s 1 0 5 5) (T (.tuple (Array.mk [(i 3), (i 0)])) (T t z z) (T t z z)) (T (i 28) (T t z z) z)) (T (s 116 0 3 3) (T (.agg (Array.mk [(b 5), (b 0), (b 0), (.int .i16 (.negSucc 2)), (w 0)])) (T t z z) (T (s 560 0 2 2) z z)) (T (s 116 0 3 3) (T t z z) z)))) (T (s 116 0 3 3) (T (i 3) (T (.agg (Array.mk [(b 149), (b 0), (b 0), (h 0), (w 0)])) (T (s 1 0 5 5) (T t z z) (T t z z)) (T (.slice none 0 0) (T t z z) z)) (T (.tuple (Array.mk [(s 116 0 3 3), (i 0)])) (T (.tuple (Array.mk [(.slice none 0 0), (i 28)])) (T t z z) (T (s 559 0 2 1208925819614629174706176) z z)) (T t (T t z z) z))) (T (.slice none 0 0) (T (.tuple (Array.mk [(s 116 0 3 3), (i 0)])) (T (i 3) (T (i 0) z z) (T t z z)) (T (i 0) (T (i 28) z z) z)) (T (i 0) (T (s 249 0 5 5) (T (i 3) z z) (T t z z)) (T (s 369 0 3 3) (T (s 1 0 5 5) z z) z))))), 56, (H .dead (H (.cells [(b 21), (b 0), (b 0), (h 2), (w 0), (b 24), (b 0), (b 0), (h 0), (w 0), (b 0), (b 0), (b 0), (h 0), (w 0), (b 149), (b 0), (b 0), (h 0), (w 0), (b 5), (b 0), (b 0), (.int .i16 (.negSucc 3)), (w 0)] 45 false) (H .dead (H .dead (H .dead z' (H .dead z' (H .dead (H .dead (H .dead (H (.cells [(i 1), (i 3)] 3 true) z' z') z') z') z'))) z') z') (H .dead (H .dead (H .dead z' (H .dead z' (H .dead z' (H .dead (H (.cells [(i 0), (i 1), (i 3)] 3 false) z' z') z')))) (H .dead z' (H .dead z' (H .dead z' (H (.cells [(b 21), (b 0), (b 0), (h 2), (w 0), (b 24), (b 0), (b 0), (h 0), (w 0), (b 0), (b 0), (b 0), (h 0), (w 0), (b 5), (b 0), (b 0), (.int .i16 (.negSucc 2)), (w 0), (b 5), (b 0), (b 0), (.int .i16 (.negSucc 3)), (w 0)] 45 false) z' z'))))) z')) (H .dead (H .dead (H .dead (H .dead z' (H .dead z' (H .dead (H .dead (H .dead (H (.cells [(i 1), (i 3)] 3 false) z' z') z') z') z'))) z') (H .dead (H .dead z' (H .dead z' (H (.cells [(i 0), (i 1), (i 3)] 3 false) z' z'))) z')) z')), 561⟩
end Go.Proofs.YtodmikjpmcabiabDoor.GrW2
