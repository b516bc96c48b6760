/-
  Contracts of the library's sort at two numbers or fewer.
-/
import Derived.Test.YtodmikjpmcabiabDoorDGrC
import Derived.Laws.OwnMore
import Derived.Deep.RegionLaw
import Derived.BigRegion
import Derived.BigQuiet
namespace Go.Proofs.YtodmikjpmcabiabDoor
set_option linter.unusedSimpArgs false
set_option linter.unusedVariables false
set_option maxRecDepth 100000
open Go.ChangeShapes Go.WideShapes Go.ChangeAt Go.RowKit

theorem gnan_I (x : Int) (w : World) : Calls Tryd.prog 82 #[.int .i64 x] w fun e w' => e = .returned (.bool false) ∧ w = w' := by
  go_enter Tryd.func82, Tryd.ntmps82
  go_wp2
  go_ret
  exact ⟨by simp, rfl⟩
theorem gless_I (x y : Int) (b : Bool) (hb : decide (x < y) = b) (w : World) : Calls Tryd.prog 65 #[.int .i64 x, .int .i64 y] w fun e w' => e = .returned (.bool b) ∧ w = w' := by
  go_enter Tryd.func65, Tryd.ntmps65
  go_wp2_with fail
  refine (gnan_I x w).mono ?_
  rintro e w' ⟨rfl, rfl⟩
  go_wp2
  go_ret
  exact ⟨by first | rfl | simp [hb], rfl⟩
theorem gless_q (x y : Int) (w : World) : Calls Tryd.prog 65 #[.int .i64 x, .int .i64 y] w fun e w' => e = .returned (.bool (decide (x < y))) ∧ w' = w := (gless_I x y _ rfl w).mono fun _ _ h => ⟨h.1, h.2.symm⟩
theorem gsort_1 (n : Int) (hn : n ≤ 1) (v : Value) (w : World) : Calls Tryd.prog 59 #[v, .int .i64 0, .int .i64 n] w fun e w' => e = .returned (.tuple #[]) ∧ w = w' := by
  have hd : decide ((1 : Int) < n) = false := decide_eq_false (by omega)
  go_enter Tryd.func59, Tryd.ntmps59
  go_wp2
  refine wp_loop_rounds 1 ?_
  rw [rounds_succ]
  go_wp2
  exact bodyPost_end (results_none rfl _ _ _) rfl ⟨rfl, rfl⟩

set_option maxHeartbeats 1000000 in
theorem gsort_2 (g cap : Nat) (x y : Int) (w : World) (hx : w.cell? ⟨g, 0, none⟩ = some (.int .i64 x)) (hy : w.cell? ⟨g, 1, none⟩ = some (.int .i64 y)) (hf0 : w.frozen? ⟨g, 0, none⟩ = false) (hf1 : w.frozen? ⟨g, 1, none⟩ = false) (hxy : y < x) :
    Calls Tryd.prog 59 #[.slice (some ⟨g, 0, none⟩) 2 cap, .int .i64 0, .int .i64 2] w fun e w' => e = .returned (.tuple #[]) ∧ ∃ a b, w' = ((((w.drewN a).setCell ⟨g, 1, none⟩ (.int .i64 x)).setCell ⟨g, 0, none⟩ (.int .i64 y)).drewN b) := by
  have hd : decide (y < x) = true := decide_eq_true hxy
  go_enter Tryd.func59, Tryd.ntmps59
  go_wp2
  refine wp_loop_rounds 2 ?_
  rw [rounds_succ]
  go_wp2
  refine wp_loop_rounds 2 ?_
  rw [rounds_succ]
  go_wp2
  go_quiet ((go_at_call 65; exact Calls.quiet_of_same (gless_q _ _ _)))
  go_wp2
  go_region
  all_goals
    go_wp2
    rw [rounds_succ]
    go_wp2
    go_quiet (fail)
    go_wp2
    rw [rounds_succ]
    go_wp2
    exact bodyPost_end (results_none rfl _ _ _) rfl ⟨rfl, _, _, rfl⟩
set_option maxHeartbeats 1000000 in
theorem gsort_2n (g cap : Nat) (x y : Int) (w : World) (hx : w.cell? ⟨g, 0, none⟩ = some (.int .i64 x)) (hy : w.cell? ⟨g, 1, none⟩ = some (.int .i64 y)) (hxy : ¬ y < x) :
    Calls Tryd.prog 59 #[.slice (some ⟨g, 0, none⟩) 2 cap, .int .i64 0, .int .i64 2] w fun e w' => e = .returned (.tuple #[]) ∧ ∃ a, w' = w.drewN a := by
  have hd : decide (y < x) = false := decide_eq_false hxy
  go_enter Tryd.func59, Tryd.ntmps59
  go_wp2
  refine wp_loop_rounds 2 ?_
  rw [rounds_succ]
  go_wp2
  refine wp_loop_rounds 2 ?_
  rw [rounds_succ]
  go_wp2
  go_quiet ((go_at_call 65; exact Calls.quiet_of_same (gless_q _ _ _)))
  go_wp2
  rw [rounds_succ]
  go_wp2
  exact bodyPost_end (results_none rfl _ _ _) rfl ⟨rfl, _, rfl⟩

/-! ### The length in bits of 0, 1, 2 -/
set_option maxRecDepth 100000 in
theorem len64_I (k : Int) (hk : k = 0 ∨ k = 1 ∨ k = 2) (w : World) : Calls Tryd.prog 69 #[.int .u64 k] w fun e w' => e = .returned (.int .i64 k) ∧ w = w' := by
  rcases hk with rfl | rfl | rfl
  all_goals
    go_enter Tryd.func69, Tryd.ntmps69
    go_wp2
    go_ret
    exact ⟨by kernel_rfl, rfl⟩
theorem len_I (k : Int) (hk : k = 0 ∨ k = 1 ∨ k = 2) (w : World) : Calls Tryd.prog 51 #[.int .u64 k] w fun e w' => e = .returned (.int .i64 k) ∧ w = w' := by
  have HL := hid (len64_I k hk w)
  rcases hk with rfl | rfl | rfl
  all_goals
    go_enter Tryd.func51, Tryd.ntmps51
    go_wp2_with fail
    refine HL.out.mono ?_
    rintro e w' ⟨rfl, rfl⟩
    go_wp2
    go_ret
    exact ⟨rfl, rfl⟩

/-! ### The sort -/
set_option maxRecDepth 100000 in
theorem pdq_I (v : Value) (n : Int) (hn : n = 0 ∨ n = 1 ∨ n = 2) (l : Int) (w : World) (R : World → Prop) (h : Calls Tryd.prog 59 #[v, .int .i64 0, .int .i64 n] w fun e w' => e = .returned (.tuple #[]) ∧ R w') :
    Calls Tryd.prog 50 #[v, .int .i64 0, .int .i64 n, .int .i64 l] w fun e w' => e = .returned (.tuple #[]) ∧ R w' := by
  have H := hid h
  have h12 : n ≤ 12 := by omega
  have h0 : 0 ≤ n := by omega
  clear h hn
  go_enter Tryd.func50, Tryd.ntmps50
  go_wp2
  refine wp_loop_rounds 1 ?_
  rw [rounds_succ]
  go_wp2_with fail
  refine H.out.mono ?_
  rintro e w' ⟨rfl, hr⟩
  have HR := hid hr
  clear hr
  go_wp2
  exact bodyPost_ret (results_none rfl _ _ _) rfl ⟨rfl, HR.out⟩
theorem sort_I (q : Option Addr) (n cap : Nat) (hn : n ≤ 2) (w : World) (R : World → Prop) (h : Calls Tryd.prog 59 #[.slice q n cap, .int .i64 0, .int .i64 n] w fun e w' => e = .returned (.tuple #[]) ∧ R w') :
    Calls Tryd.prog 39 #[.slice q n cap] w fun e w' => e = .returned (.tuple #[]) ∧ R w' := by
  have H := hid fun l => pdq_I (.slice q n cap) n (by omega) l w R h
  have HL := hid (len_I n (by omega) w)
  have h0 : 0 ≤ (n : Int) := by omega
  have h2 : (n : Int) ≤ 2 := by omega
  clear h
  go_enter Tryd.func39, Tryd.ntmps39
  go_wp2_with fail
  refine HL.out.mono ?_
  rintro e w' ⟨rfl, rfl⟩
  go_wp2_with fail
  refine (H.out _).mono ?_
  rintro e w' ⟨rfl, hr⟩
  have HR := hid hr
  clear hr
  go_wp2
  exact bodyPost_end (results_none rfl _ _ _) rfl ⟨rfl, HR.out⟩
end Go.Proofs.YtodmikjpmcabiabDoor
