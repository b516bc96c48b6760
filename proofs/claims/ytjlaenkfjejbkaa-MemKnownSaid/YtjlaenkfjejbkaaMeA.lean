/-
  Contracts of package mem's small functions, as the landed code has them.
-/
import Derived.Test.YtjlaenkfjejbkaaChecked
import Derived.Test.YtjlaenkfjejbkaaMeP
import Derived.ProofKit
import Derived.WalkKit
import Derived.Below
import Derived.Outline
import Derived.OneCell
import Derived.Deep.QuietTactic
import Derived.Deep.MidRow
import Derived.Deep.WholeRow
import Derived.BigQuiet
namespace Go.Proofs.Ytjlaenkfjejbkaa
set_option linter.unusedSimpArgs false
set_option linter.unusedVariables false
open Go.ChangeShapes Go.WideShapes Go.ChangeAt Go.RowKit

theorem hid {p : Prop} (h : p) : Hid p := h
theorem below_next {a b c : World} (h : Below a.heap.size a b) (k : Below b.heap.size b c) : Below a.heap.size a c := h.trans (k.mono h.size)
theorem below_drewN (B : Nat) (w : World) (n : Nat) : Below B w (w.drewN n) := ⟨rfl, rfl, rfl, Nat.le_refl _, fun _ _ => rfl⟩
theorem ret_val {a b : Value} (h : a = b) : Ending.returned a = .returned b := by rw [h]

def vC (v : Vl) : List Value := [.int .u8 v.k, .int .i64 v.m, .int .u64 v.n, .int .i64 v.o]
def vV (v : Vl) : Value := .agg #[.int .u8 v.k, .int .i64 v.m, .int .u64 v.n, .int .i64 v.o]

theorem isSize_any (n : Int) (w : World) : Calls Try.prog 29 #[.int .i64 n] w fun e w' => e = .returned (.bool (sizeB n)) ∧ w = w' := by
  unfold sizeB
  cases h1 : (n == 1) <;> cases h2 : (n == 2) <;> cases h3 : (n == 4) <;> cases h4 : (n == 8) <;>
  (go_enter Try.func29, Try.ntmps29
   go_wp2
   go_ret
   exact ⟨rfl, rfl⟩)

theorem within_any (r off n : Int) (w : World) (hr : 0 ≤ r ∧ r < 9223372036854775808) (hn : 1 ≤ n ∧ n ≤ 8) (ho : -9223372036854775808 ≤ off ∧ off < 9223372036854775808) :
    Calls Try.prog 41 #[.int .i64 r, .int .i64 off, .int .i64 n] w fun e w' => e = .returned (.bool (withinB r off n)) ∧ w = w' := by
  unfold withinB
  obtain ⟨hr0, hr1⟩ := hr
  obtain ⟨hn0, hn1⟩ := hn
  obtain ⟨ho0, ho1⟩ := ho
  cases h1 : decide (0 ≤ off) <;> cases h2 : decide (off ≤ r - n) <;>
  (go_enter Try.func41, Try.ntmps41
   go_wp2
   go_ret
   exact ⟨rfl, rfl⟩)

theorem isAddress_any (v : Vl) (w : World) : Calls Try.prog 44 #[vV v] w fun e w' => e = .returned (.bool (adrB v)) ∧ Below w.heap.size w w' := by
  unfold adrB vV
  cases h1 : (v.k != 0) <;> cases h2 : (v.k != 1) <;>
  (go_enter Try.func44, Try.ntmps44
   go_wp2
   go_ret
   exact ⟨rfl, (Below.refl _ _).alloc (Nat.le_refl _) _⟩)

end Go.Proofs.Ytjlaenkfjejbkaa
