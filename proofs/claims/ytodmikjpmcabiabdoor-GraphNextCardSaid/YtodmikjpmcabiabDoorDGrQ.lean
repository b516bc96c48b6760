/-
  Contracts of the library's Compact at two numbers or fewer.
-/
import Derived.Test.YtodmikjpmcabiabDoorDGrS
namespace Go.Proofs.YtodmikjpmcabiabDoor
set_option linter.unusedSimpArgs false
set_option linter.unusedVariables false
set_option maxRecDepth 100000
open Go.ChangeShapes Go.WideShapes Go.ChangeAt Go.RowKit

theorem compact_1 (q : Option Addr) (n cap : Nat) (hn : n < 2) (w : World) : Calls Tryd.prog 40 #[.slice q n cap] w fun e w' => e = .returned (.slice q n cap) ∧ w = w' := by
  have hd : decide ((n : Int) < 2) = true := decide_eq_true (by omega)
  have hd' : decide (n < 2) = true := decide_eq_true hn
  go_enter Tryd.func40, Tryd.ntmps40
  go_wp2
  go_ret
  exact ⟨rfl, rfl⟩
set_option maxHeartbeats 1000000 in
theorem compact_ne (g cap : Nat) (x y : Int) (w : World) (hx : w.cell? ⟨g, 0, none⟩ = some (.int .i64 x)) (hy : w.cell? ⟨g, 1, none⟩ = some (.int .i64 y)) (hxy : y ≠ x) : Calls Tryd.prog 40 #[.slice (some ⟨g, 0, none⟩) 2 cap] w fun e w' => e = .returned (.slice (some ⟨g, 0, none⟩) 2 cap) ∧ ∃ a, w' = w.drewN a := by
  have hd : (y == x) = false := by simpa using hxy
  go_enter Tryd.func40, Tryd.ntmps40
  go_wp2
  refine wp_loop_rounds 2 ?_
  rw [rounds_succ]
  go_wp2
  go_quiet (fail)
  go_wp2
  rw [rounds_succ]
  go_wp2
  go_ret
  exact ⟨rfl, _, rfl⟩
theorem intInfoQ : (Tryd.prog.info? 3).map (fun i => (i.zero, i.size, i.bytes)) = some (some (.int .i64 0), 1, 8) := by kernel_rfl
set_option maxRecDepth 100000 in
theorem clear_one (g k : Nat) (x : Int) (W : World) (hc : W.cell? ⟨g, 1, none⟩ = some (.int .i64 x)) (hf : W.frozen? ⟨g, 1, none⟩ = false) : (Builtin.clear_ #[25] 0 #[.slice (some ⟨g, 1, none⟩) 1 k]).run Tryd.prog W = .ok (.tuple #[]) (W.setCell ⟨g, 1, none⟩ (.int .i64 0)) := by
  have hu := run_underlying (P := Tryd.prog) Tryd.underlying25
  unfold Builtin.clear_
  have hz : (Builtin.zeroCells #[.int .i64 0] 1).toList = [.int .i64 0] := by kernel_rfl
  simp [hu, Tryd.zeroValue3, go_sem]
  rw [hz]
  simp [storeCells, go_sem, hc, hf]
set_option maxRecDepth 100000 in
set_option maxHeartbeats 1000000 in
theorem compact_eq (g cap : Nat) (x : Int) (w : World) (hcap : 2 ≤ cap) (hx : w.cell? ⟨g, 0, none⟩ = some (.int .i64 x)) (hy : w.cell? ⟨g, 1, none⟩ = some (.int .i64 x)) (hf1 : w.frozen? ⟨g, 1, none⟩ = false) : Calls Tryd.prog 40 #[.slice (some ⟨g, 0, none⟩) 2 cap] w fun e w' => e = .returned (.slice (some ⟨g, 0, none⟩) 1 cap) ∧ ∃ a, w' = (w.drewN a).setCell ⟨g, 1, none⟩ (.int .i64 0) := by
  have hd : (x == x) = true := by simp
  have hc1 : (1 : Int) ≤ (cap : Int) := by omega
  have hc2 : (2 : Int) ≤ (cap : Int) := by omega
  have hc3 : ¬ cap = 1 := by omega
  have hc4 : ¬ (cap : Int) = 1 := by omega
  go_enter Tryd.func40, Tryd.ntmps40
  go_wp2
  refine wp_loop_rounds 2 ?_
  rw [rounds_succ]
  go_wp2
  go_quiet (fail)
  have hcl := clear_one g (cap - 1) x (w.drewN nq) hy hf1
  go_wp2
  refine wp_loop_rounds 1 ?_
  rw [rounds_succ]
  go_wp2
  go_ret
  exact ⟨rfl, _, rfl⟩
end Go.Proofs.YtodmikjpmcabiabDoor
