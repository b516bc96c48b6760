/-
  Contracts of package insn's either, memoryOp and opOf, as the landed code has them.
-/
import Derived.Test.YtkapbeipjjcalaaDoorInsnH
namespace Go.Proofs.YtkapbeipjjcalaaDoor
set_option linter.unusedSimpArgs false
set_option linter.unusedVariables false
open Go.ChangeShapes Go.WideShapes Go.ChangeAt Go.RowKit

theorem either_is (b : Bool) (x y : Int) (w : World) : Calls Tryd.prog 31 #[.bool b, .int .u8 x, .int .u8 y] w fun e w' => e = .returned (.int .u8 (if b then x else y)) ∧ w = w' := by
  cases b
  all_goals
    go_enter Tryd.func31, Tryd.ntmps31
    go_wp2
    go_ret
    exact ⟨rfl, rfl⟩
def memOpI (size fam : Int) : Int := if size = 4 then bits .or .u8 96 fam else if size = 2 then bits .or .u8 104 fam else if size = 1 then bits .or .u8 112 fam else if size = 8 then bits .or .u8 120 fam else 0

theorem memOp_4 (fam : Int) (w : World) (hz : SzOk w) : Calls Tryd.prog 32 #[.int .i64 4, .int .u8 fam] w fun e w' => e = .returned (.int .u8 (bits .or .u8 96 fam)) ∧ w = w' := by
  obtain ⟨z, z0, z1, z2, z3⟩ := hz
  have i0 : ∀ w, (Instr.index 87 (.agg #[.int .i64 4, .int .i64 2, .int .i64 1, .int .i64 8]) (.int .i64 0)).run Tryd.prog w = .ok (.int .i64 4) w := fun _ => by kernel_rfl
  have i1 : ∀ w, (Instr.index 87 (.agg #[.int .i64 4, .int .i64 2, .int .i64 1, .int .i64 8]) (.int .i64 1)).run Tryd.prog w = .ok (.int .i64 2) w := fun _ => by kernel_rfl
  have i2 : ∀ w, (Instr.index 87 (.agg #[.int .i64 4, .int .i64 2, .int .i64 1, .int .i64 8]) (.int .i64 2)).run Tryd.prog w = .ok (.int .i64 1) w := fun _ => by kernel_rfl
  have i3 : ∀ w, (Instr.index 87 (.agg #[.int .i64 4, .int .i64 2, .int .i64 1, .int .i64 8]) (.int .i64 3)).run Tryd.prog w = .ok (.int .i64 8) w := fun _ => by kernel_rfl
  go_enter Tryd.func32, Tryd.ntmps32
  go_wp2
  refine wp_loop_rounds 1 ?_
  rw [rounds_succ]
  go_wp2
  go_ret
  exact ⟨rfl, rfl⟩

theorem memOp_2 (fam : Int) (w : World) (hz : SzOk w) : Calls Tryd.prog 32 #[.int .i64 2, .int .u8 fam] w fun e w' => e = .returned (.int .u8 (bits .or .u8 104 fam)) ∧ w = w' := by
  obtain ⟨z, z0, z1, z2, z3⟩ := hz
  have i0 : ∀ w, (Instr.index 87 (.agg #[.int .i64 4, .int .i64 2, .int .i64 1, .int .i64 8]) (.int .i64 0)).run Tryd.prog w = .ok (.int .i64 4) w := fun _ => by kernel_rfl
  have i1 : ∀ w, (Instr.index 87 (.agg #[.int .i64 4, .int .i64 2, .int .i64 1, .int .i64 8]) (.int .i64 1)).run Tryd.prog w = .ok (.int .i64 2) w := fun _ => by kernel_rfl
  have i2 : ∀ w, (Instr.index 87 (.agg #[.int .i64 4, .int .i64 2, .int .i64 1, .int .i64 8]) (.int .i64 2)).run Tryd.prog w = .ok (.int .i64 1) w := fun _ => by kernel_rfl
  have i3 : ∀ w, (Instr.index 87 (.agg #[.int .i64 4, .int .i64 2, .int .i64 1, .int .i64 8]) (.int .i64 3)).run Tryd.prog w = .ok (.int .i64 8) w := fun _ => by kernel_rfl
  go_enter Tryd.func32, Tryd.ntmps32
  go_wp2
  refine wp_loop_rounds 2 ?_
  rw [rounds_succ]
  go_wp2
  rw [rounds_succ]
  go_wp2
  go_ret
  exact ⟨rfl, rfl⟩

theorem memOp_1 (fam : Int) (w : World) (hz : SzOk w) : Calls Tryd.prog 32 #[.int .i64 1, .int .u8 fam] w fun e w' => e = .returned (.int .u8 (bits .or .u8 112 fam)) ∧ w = w' := by
  obtain ⟨z, z0, z1, z2, z3⟩ := hz
  have i0 : ∀ w, (Instr.index 87 (.agg #[.int .i64 4, .int .i64 2, .int .i64 1, .int .i64 8]) (.int .i64 0)).run Tryd.prog w = .ok (.int .i64 4) w := fun _ => by kernel_rfl
  have i1 : ∀ w, (Instr.index 87 (.agg #[.int .i64 4, .int .i64 2, .int .i64 1, .int .i64 8]) (.int .i64 1)).run Tryd.prog w = .ok (.int .i64 2) w := fun _ => by kernel_rfl
  have i2 : ∀ w, (Instr.index 87 (.agg #[.int .i64 4, .int .i64 2, .int .i64 1, .int .i64 8]) (.int .i64 2)).run Tryd.prog w = .ok (.int .i64 1) w := fun _ => by kernel_rfl
  have i3 : ∀ w, (Instr.index 87 (.agg #[.int .i64 4, .int .i64 2, .int .i64 1, .int .i64 8]) (.int .i64 3)).run Tryd.prog w = .ok (.int .i64 8) w := fun _ => by kernel_rfl
  go_enter Tryd.func32, Tryd.ntmps32
  go_wp2
  refine wp_loop_rounds 3 ?_
  rw [rounds_succ]
  go_wp2
  rw [rounds_succ]
  go_wp2
  rw [rounds_succ]
  go_wp2
  go_ret
  exact ⟨rfl, rfl⟩

theorem memOp_8 (fam : Int) (w : World) (hz : SzOk w) : Calls Tryd.prog 32 #[.int .i64 8, .int .u8 fam] w fun e w' => e = .returned (.int .u8 (bits .or .u8 120 fam)) ∧ w = w' := by
  obtain ⟨z, z0, z1, z2, z3⟩ := hz
  have i0 : ∀ w, (Instr.index 87 (.agg #[.int .i64 4, .int .i64 2, .int .i64 1, .int .i64 8]) (.int .i64 0)).run Tryd.prog w = .ok (.int .i64 4) w := fun _ => by kernel_rfl
  have i1 : ∀ w, (Instr.index 87 (.agg #[.int .i64 4, .int .i64 2, .int .i64 1, .int .i64 8]) (.int .i64 1)).run Tryd.prog w = .ok (.int .i64 2) w := fun _ => by kernel_rfl
  have i2 : ∀ w, (Instr.index 87 (.agg #[.int .i64 4, .int .i64 2, .int .i64 1, .int .i64 8]) (.int .i64 2)).run Tryd.prog w = .ok (.int .i64 1) w := fun _ => by kernel_rfl
  have i3 : ∀ w, (Instr.index 87 (.agg #[.int .i64 4, .int .i64 2, .int .i64 1, .int .i64 8]) (.int .i64 3)).run Tryd.prog w = .ok (.int .i64 8) w := fun _ => by kernel_rfl
  go_enter Tryd.func32, Tryd.ntmps32
  go_wp2
  refine wp_loop_rounds 4 ?_
  rw [rounds_succ]
  go_wp2
  rw [rounds_succ]
  go_wp2
  rw [rounds_succ]
  go_wp2
  rw [rounds_succ]
  go_wp2
  go_ret
  exact ⟨rfl, rfl⟩

theorem memOp_size (size : Int) (n4 : size ≠ 4) (n2 : size ≠ 2) (n1 : size ≠ 1) (n8 : size ≠ 8) (fam : Int) (w : World) (hz : SzOk w) : Calls Tryd.prog 32 #[.int .i64 size, .int .u8 fam] w fun e w' => e = .returned (.int .u8 (0)) ∧ w = w' := by
  obtain ⟨z, z0, z1, z2, z3⟩ := hz
  have i0 : ∀ w, (Instr.index 87 (.agg #[.int .i64 4, .int .i64 2, .int .i64 1, .int .i64 8]) (.int .i64 0)).run Tryd.prog w = .ok (.int .i64 4) w := fun _ => by kernel_rfl
  have i1 : ∀ w, (Instr.index 87 (.agg #[.int .i64 4, .int .i64 2, .int .i64 1, .int .i64 8]) (.int .i64 1)).run Tryd.prog w = .ok (.int .i64 2) w := fun _ => by kernel_rfl
  have i2 : ∀ w, (Instr.index 87 (.agg #[.int .i64 4, .int .i64 2, .int .i64 1, .int .i64 8]) (.int .i64 2)).run Tryd.prog w = .ok (.int .i64 1) w := fun _ => by kernel_rfl
  have i3 : ∀ w, (Instr.index 87 (.agg #[.int .i64 4, .int .i64 2, .int .i64 1, .int .i64 8]) (.int .i64 3)).run Tryd.prog w = .ok (.int .i64 8) w := fun _ => by kernel_rfl
  have e4 : ((4 : Int) == size) = false := by simp; omega
  have e2 : ((2 : Int) == size) = false := by simp; omega
  have e1 : ((1 : Int) == size) = false := by simp; omega
  have e8 : ((8 : Int) == size) = false := by simp; omega
  clear n4 n2 n1 n8
  go_enter Tryd.func32, Tryd.ntmps32
  go_wp2
  refine wp_loop_rounds 5 ?_
  rw [rounds_succ]
  go_wp2
  rw [rounds_succ]
  go_wp2
  rw [rounds_succ]
  go_wp2
  rw [rounds_succ]
  go_wp2
  rw [rounds_succ]
  go_wp2
  go_ret
  exact ⟨rfl, rfl⟩

theorem memOp_any (size fam : Int) (w : World) (hz : SzOk w) : Calls Tryd.prog 32 #[.int .i64 size, .int .u8 fam] w fun e w' => e = .returned (.int .u8 (memOpI size fam)) ∧ w = w' := by
  unfold memOpI
  by_cases n4 : size = 4
  · subst n4; exact memOp_4 fam w hz
  by_cases n2 : size = 2
  · subst n2; exact memOp_2 fam w hz
  by_cases n1 : size = 1
  · subst n1; exact memOp_1 fam w hz
  by_cases n8 : size = 8
  · subst n8; exact memOp_8 fam w hz
  rw [if_neg n4, if_neg n2, if_neg n1, if_neg n8]
  exact memOp_size size n4 n2 n1 n8 fam w hz
def opO (r : Rw) : Int := if r.reg then bits .or .u8 (r.op % 256 * 16 % 256) 8 else r.op % 256 * 16 % 256
def opI (r : Rw) : Int :=
  if r.cls = 1 then bits .or .u8 (opO r) (if r.wide then 7 else 4) else if r.cls = 6 then bits .or .u8 (opO r) (if r.wide then 5 else 6) else if r.cls = 3 then memOpI r.size 1
  else if r.cls = 5 then memOpI r.size 2 else if r.cls = 4 then memOpI r.size 3 else if r.cls = 2 then 215 else if r.cls = 7 then 5 else if r.cls = 8 then 133 else if r.cls = 9 then 149 else 24

theorem opOf_a1 (r : Rw) (w : World) (hz : SzOk w) (hc : r.cls = 1) (hg : r.reg = true) : Calls Tryd.prog 23 #[whV r] w fun e w' => e = .returned (.int .u8 (bits .or .u8 (opO r) (if r.wide then 7 else 4))) ∧ Below w.heap.size w w' := by
  obtain ⟨cls, op, size, wide, reg, q1, q2, q3, q4⟩ := r
  simp only at hc hg
  subst hg
  subst hc
  simp only [whV, opO]
  have HZ := hid hz
  clear hz
  go_enter Tryd.func23, Tryd.ntmps23
  go_wp2_with fail
  refine (either_is wide 7 4 _).mono ?_
  rintro e w' ⟨rfl, rfl⟩
  go_wp2
  all_goals go_ret
  all_goals exact ⟨rfl, (Below.refl _ _).alloc (Nat.le_refl _) _⟩

theorem opOf_j1 (r : Rw) (w : World) (hz : SzOk w) (hc : r.cls = 6) (hg : r.reg = true) : Calls Tryd.prog 23 #[whV r] w fun e w' => e = .returned (.int .u8 (bits .or .u8 (opO r) (if r.wide then 5 else 6))) ∧ Below w.heap.size w w' := by
  obtain ⟨cls, op, size, wide, reg, q1, q2, q3, q4⟩ := r
  simp only at hc hg
  subst hg
  subst hc
  simp only [whV, opO]
  have HZ := hid hz
  clear hz
  go_enter Tryd.func23, Tryd.ntmps23
  go_wp2_with fail
  refine (either_is wide 5 6 _).mono ?_
  rintro e w' ⟨rfl, rfl⟩
  go_wp2
  all_goals go_ret
  all_goals exact ⟨rfl, (Below.refl _ _).alloc (Nat.le_refl _) _⟩

theorem opOf_l1 (r : Rw) (w : World) (hz : SzOk w) (hc : r.cls = 3) (hg : r.reg = true) : Calls Tryd.prog 23 #[whV r] w fun e w' => e = .returned (.int .u8 (memOpI r.size 1)) ∧ Below w.heap.size w w' := by
  obtain ⟨cls, op, size, wide, reg, q1, q2, q3, q4⟩ := r
  simp only at hc hg
  subst hg
  subst hc
  simp only [whV, opO]
  have HZ := hid hz
  clear hz
  go_enter Tryd.func23, Tryd.ntmps23
  go_wp2_with fail
  refine (memOp_any size 1 _ (HZ.out.alloc _)).mono ?_
  rintro e w' ⟨rfl, rfl⟩
  go_wp2
  all_goals go_ret
  all_goals exact ⟨rfl, (Below.refl _ _).alloc (Nat.le_refl _) _⟩

theorem opOf_i1 (r : Rw) (w : World) (hz : SzOk w) (hc : r.cls = 5) (hg : r.reg = true) : Calls Tryd.prog 23 #[whV r] w fun e w' => e = .returned (.int .u8 (memOpI r.size 2)) ∧ Below w.heap.size w w' := by
  obtain ⟨cls, op, size, wide, reg, q1, q2, q3, q4⟩ := r
  simp only at hc hg
  subst hg
  subst hc
  simp only [whV, opO]
  have HZ := hid hz
  clear hz
  go_enter Tryd.func23, Tryd.ntmps23
  go_wp2_with fail
  refine (memOp_any size 2 _ (HZ.out.alloc _)).mono ?_
  rintro e w' ⟨rfl, rfl⟩
  go_wp2
  all_goals go_ret
  all_goals exact ⟨rfl, (Below.refl _ _).alloc (Nat.le_refl _) _⟩

theorem opOf_s1 (r : Rw) (w : World) (hz : SzOk w) (hc : r.cls = 4) (hg : r.reg = true) : Calls Tryd.prog 23 #[whV r] w fun e w' => e = .returned (.int .u8 (memOpI r.size 3)) ∧ Below w.heap.size w w' := by
  obtain ⟨cls, op, size, wide, reg, q1, q2, q3, q4⟩ := r
  simp only at hc hg
  subst hg
  subst hc
  simp only [whV, opO]
  have HZ := hid hz
  clear hz
  go_enter Tryd.func23, Tryd.ntmps23
  go_wp2_with fail
  refine (memOp_any size 3 _ (HZ.out.alloc _)).mono ?_
  rintro e w' ⟨rfl, rfl⟩
  go_wp2
  all_goals go_ret
  all_goals exact ⟨rfl, (Below.refl _ _).alloc (Nat.le_refl _) _⟩

theorem opOf_w1 (r : Rw) (w : World) (hz : SzOk w) (hc : r.cls = 2) (hg : r.reg = true) : Calls Tryd.prog 23 #[whV r] w fun e w' => e = .returned (.int .u8 (215)) ∧ Below w.heap.size w w' := by
  obtain ⟨cls, op, size, wide, reg, q1, q2, q3, q4⟩ := r
  simp only at hc hg
  subst hg
  subst hc
  simp only [whV, opO]
  have HZ := hid hz
  clear hz
  go_enter Tryd.func23, Tryd.ntmps23
  go_wp2
  all_goals go_ret
  all_goals exact ⟨rfl, (Below.refl _ _).alloc (Nat.le_refl _) _⟩

theorem opOf_g1 (r : Rw) (w : World) (hz : SzOk w) (hc : r.cls = 7) (hg : r.reg = true) : Calls Tryd.prog 23 #[whV r] w fun e w' => e = .returned (.int .u8 (5)) ∧ Below w.heap.size w w' := by
  obtain ⟨cls, op, size, wide, reg, q1, q2, q3, q4⟩ := r
  simp only at hc hg
  subst hg
  subst hc
  simp only [whV, opO]
  have HZ := hid hz
  clear hz
  go_enter Tryd.func23, Tryd.ntmps23
  go_wp2
  all_goals go_ret
  all_goals exact ⟨rfl, (Below.refl _ _).alloc (Nat.le_refl _) _⟩

theorem opOf_c1 (r : Rw) (w : World) (hz : SzOk w) (hc : r.cls = 8) (hg : r.reg = true) : Calls Tryd.prog 23 #[whV r] w fun e w' => e = .returned (.int .u8 (133)) ∧ Below w.heap.size w w' := by
  obtain ⟨cls, op, size, wide, reg, q1, q2, q3, q4⟩ := r
  simp only at hc hg
  subst hg
  subst hc
  simp only [whV, opO]
  have HZ := hid hz
  clear hz
  go_enter Tryd.func23, Tryd.ntmps23
  go_wp2
  all_goals go_ret
  all_goals exact ⟨rfl, (Below.refl _ _).alloc (Nat.le_refl _) _⟩

theorem opOf_x1 (r : Rw) (w : World) (hz : SzOk w) (hc : r.cls = 9) (hg : r.reg = true) : Calls Tryd.prog 23 #[whV r] w fun e w' => e = .returned (.int .u8 (149)) ∧ Below w.heap.size w w' := by
  obtain ⟨cls, op, size, wide, reg, q1, q2, q3, q4⟩ := r
  simp only at hc hg
  subst hg
  subst hc
  simp only [whV, opO]
  have HZ := hid hz
  clear hz
  go_enter Tryd.func23, Tryd.ntmps23
  go_wp2
  all_goals go_ret
  all_goals exact ⟨rfl, (Below.refl _ _).alloc (Nat.le_refl _) _⟩

theorem opOf_z1 (r : Rw) (w : World) (hz : SzOk w) (n1 : r.cls ≠ 1) (n6 : r.cls ≠ 6) (n3 : r.cls ≠ 3) (n5 : r.cls ≠ 5) (n4 : r.cls ≠ 4) (n2 : r.cls ≠ 2) (n7 : r.cls ≠ 7) (n8 : r.cls ≠ 8) (n9 : r.cls ≠ 9) (hg : r.reg = true) : Calls Tryd.prog 23 #[whV r] w fun e w' => e = .returned (.int .u8 (24)) ∧ Below w.heap.size w w' := by
  obtain ⟨cls, op, size, wide, reg, q1, q2, q3, q4⟩ := r
  simp only at n1 n6 n3 n5 n4 n2 n7 n8 n9 hg
  subst hg
  have e1 : (cls == 1) = false := by simpa using n1
  have e6 : (cls == 6) = false := by simpa using n6
  have e3 : (cls == 3) = false := by simpa using n3
  have e5 : (cls == 5) = false := by simpa using n5
  have e4 : (cls == 4) = false := by simpa using n4
  have e2 : (cls == 2) = false := by simpa using n2
  have e7 : (cls == 7) = false := by simpa using n7
  have e8 : (cls == 8) = false := by simpa using n8
  have e9 : (cls == 9) = false := by simpa using n9
  clear n1 n6 n3 n5 n4 n2 n7 n8 n9
  simp only [whV, opO]
  have HZ := hid hz
  clear hz
  go_enter Tryd.func23, Tryd.ntmps23
  go_wp2
  all_goals go_ret
  all_goals exact ⟨rfl, (Below.refl _ _).alloc (Nat.le_refl _) _⟩

theorem opOf_a0 (r : Rw) (w : World) (hz : SzOk w) (hc : r.cls = 1) (hg : r.reg = false) : Calls Tryd.prog 23 #[whV r] w fun e w' => e = .returned (.int .u8 (bits .or .u8 (opO r) (if r.wide then 7 else 4))) ∧ Below w.heap.size w w' := by
  obtain ⟨cls, op, size, wide, reg, q1, q2, q3, q4⟩ := r
  simp only at hc hg
  subst hg
  subst hc
  simp only [whV, opO]
  have HZ := hid hz
  clear hz
  go_enter Tryd.func23, Tryd.ntmps23
  go_wp2_with fail
  refine (either_is wide 7 4 _).mono ?_
  rintro e w' ⟨rfl, rfl⟩
  go_wp2
  all_goals go_ret
  all_goals exact ⟨rfl, (Below.refl _ _).alloc (Nat.le_refl _) _⟩

theorem opOf_j0 (r : Rw) (w : World) (hz : SzOk w) (hc : r.cls = 6) (hg : r.reg = false) : Calls Tryd.prog 23 #[whV r] w fun e w' => e = .returned (.int .u8 (bits .or .u8 (opO r) (if r.wide then 5 else 6))) ∧ Below w.heap.size w w' := by
  obtain ⟨cls, op, size, wide, reg, q1, q2, q3, q4⟩ := r
  simp only at hc hg
  subst hg
  subst hc
  simp only [whV, opO]
  have HZ := hid hz
  clear hz
  go_enter Tryd.func23, Tryd.ntmps23
  go_wp2_with fail
  refine (either_is wide 5 6 _).mono ?_
  rintro e w' ⟨rfl, rfl⟩
  go_wp2
  all_goals go_ret
  all_goals exact ⟨rfl, (Below.refl _ _).alloc (Nat.le_refl _) _⟩

theorem opOf_l0 (r : Rw) (w : World) (hz : SzOk w) (hc : r.cls = 3) (hg : r.reg = false) : Calls Tryd.prog 23 #[whV r] w fun e w' => e = .returned (.int .u8 (memOpI r.size 1)) ∧ Below w.heap.size w w' := by
  obtain ⟨cls, op, size, wide, reg, q1, q2, q3, q4⟩ := r
  simp only at hc hg
  subst hg
  subst hc
  simp only [whV, opO]
  have HZ := hid hz
  clear hz
  go_enter Tryd.func23, Tryd.ntmps23
  go_wp2_with fail
  refine (memOp_any size 1 _ (HZ.out.alloc _)).mono ?_
  rintro e w' ⟨rfl, rfl⟩
  go_wp2
  all_goals go_ret
  all_goals exact ⟨rfl, (Below.refl _ _).alloc (Nat.le_refl _) _⟩

theorem opOf_i0 (r : Rw) (w : World) (hz : SzOk w) (hc : r.cls = 5) (hg : r.reg = false) : Calls Tryd.prog 23 #[whV r] w fun e w' => e = .returned (.int .u8 (memOpI r.size 2)) ∧ Below w.heap.size w w' := by
  obtain ⟨cls, op, size, wide, reg, q1, q2, q3, q4⟩ := r
  simp only at hc hg
  subst hg
  subst hc
  simp only [whV, opO]
  have HZ := hid hz
  clear hz
  go_enter Tryd.func23, Tryd.ntmps23
  go_wp2_with fail
  refine (memOp_any size 2 _ (HZ.out.alloc _)).mono ?_
  rintro e w' ⟨rfl, rfl⟩
  go_wp2
  all_goals go_ret
  all_goals exact ⟨rfl, (Below.refl _ _).alloc (Nat.le_refl _) _⟩

theorem opOf_s0 (r : Rw) (w : World) (hz : SzOk w) (hc : r.cls = 4) (hg : r.reg = false) : Calls Tryd.prog 23 #[whV r] w fun e w' => e = .returned (.int .u8 (memOpI r.size 3)) ∧ Below w.heap.size w w' := by
  obtain ⟨cls, op, size, wide, reg, q1, q2, q3, q4⟩ := r
  simp only at hc hg
  subst hg
  subst hc
  simp only [whV, opO]
  have HZ := hid hz
  clear hz
  go_enter Tryd.func23, Tryd.ntmps23
  go_wp2_with fail
  refine (memOp_any size 3 _ (HZ.out.alloc _)).mono ?_
  rintro e w' ⟨rfl, rfl⟩
  go_wp2
  all_goals go_ret
  all_goals exact ⟨rfl, (Below.refl _ _).alloc (Nat.le_refl _) _⟩

theorem opOf_w0 (r : Rw) (w : World) (hz : SzOk w) (hc : r.cls = 2) (hg : r.reg = false) : Calls Tryd.prog 23 #[whV r] w fun e w' => e = .returned (.int .u8 (215)) ∧ Below w.heap.size w w' := by
  obtain ⟨cls, op, size, wide, reg, q1, q2, q3, q4⟩ := r
  simp only at hc hg
  subst hg
  subst hc
  simp only [whV, opO]
  have HZ := hid hz
  clear hz
  go_enter Tryd.func23, Tryd.ntmps23
  go_wp2
  all_goals go_ret
  all_goals exact ⟨rfl, (Below.refl _ _).alloc (Nat.le_refl _) _⟩

theorem opOf_g0 (r : Rw) (w : World) (hz : SzOk w) (hc : r.cls = 7) (hg : r.reg = false) : Calls Tryd.prog 23 #[whV r] w fun e w' => e = .returned (.int .u8 (5)) ∧ Below w.heap.size w w' := by
  obtain ⟨cls, op, size, wide, reg, q1, q2, q3, q4⟩ := r
  simp only at hc hg
  subst hg
  subst hc
  simp only [whV, opO]
  have HZ := hid hz
  clear hz
  go_enter Tryd.func23, Tryd.ntmps23
  go_wp2
  all_goals go_ret
  all_goals exact ⟨rfl, (Below.refl _ _).alloc (Nat.le_refl _) _⟩

theorem opOf_c0 (r : Rw) (w : World) (hz : SzOk w) (hc : r.cls = 8) (hg : r.reg = false) : Calls Tryd.prog 23 #[whV r] w fun e w' => e = .returned (.int .u8 (133)) ∧ Below w.heap.size w w' := by
  obtain ⟨cls, op, size, wide, reg, q1, q2, q3, q4⟩ := r
  simp only at hc hg
  subst hg
  subst hc
  simp only [whV, opO]
  have HZ := hid hz
  clear hz
  go_enter Tryd.func23, Tryd.ntmps23
  go_wp2
  all_goals go_ret
  all_goals exact ⟨rfl, (Below.refl _ _).alloc (Nat.le_refl _) _⟩

theorem opOf_x0 (r : Rw) (w : World) (hz : SzOk w) (hc : r.cls = 9) (hg : r.reg = false) : Calls Tryd.prog 23 #[whV r] w fun e w' => e = .returned (.int .u8 (149)) ∧ Below w.heap.size w w' := by
  obtain ⟨cls, op, size, wide, reg, q1, q2, q3, q4⟩ := r
  simp only at hc hg
  subst hg
  subst hc
  simp only [whV, opO]
  have HZ := hid hz
  clear hz
  go_enter Tryd.func23, Tryd.ntmps23
  go_wp2
  all_goals go_ret
  all_goals exact ⟨rfl, (Below.refl _ _).alloc (Nat.le_refl _) _⟩

theorem opOf_z0 (r : Rw) (w : World) (hz : SzOk w) (n1 : r.cls ≠ 1) (n6 : r.cls ≠ 6) (n3 : r.cls ≠ 3) (n5 : r.cls ≠ 5) (n4 : r.cls ≠ 4) (n2 : r.cls ≠ 2) (n7 : r.cls ≠ 7) (n8 : r.cls ≠ 8) (n9 : r.cls ≠ 9) (hg : r.reg = false) : Calls Tryd.prog 23 #[whV r] w fun e w' => e = .returned (.int .u8 (24)) ∧ Below w.heap.size w w' := by
  obtain ⟨cls, op, size, wide, reg, q1, q2, q3, q4⟩ := r
  simp only at n1 n6 n3 n5 n4 n2 n7 n8 n9 hg
  subst hg
  have e1 : (cls == 1) = false := by simpa using n1
  have e6 : (cls == 6) = false := by simpa using n6
  have e3 : (cls == 3) = false := by simpa using n3
  have e5 : (cls == 5) = false := by simpa using n5
  have e4 : (cls == 4) = false := by simpa using n4
  have e2 : (cls == 2) = false := by simpa using n2
  have e7 : (cls == 7) = false := by simpa using n7
  have e8 : (cls == 8) = false := by simpa using n8
  have e9 : (cls == 9) = false := by simpa using n9
  clear n1 n6 n3 n5 n4 n2 n7 n8 n9
  simp only [whV, opO]
  have HZ := hid hz
  clear hz
  go_enter Tryd.func23, Tryd.ntmps23
  go_wp2
  all_goals go_ret
  all_goals exact ⟨rfl, (Below.refl _ _).alloc (Nat.le_refl _) _⟩

theorem opOf_any (r : Rw) (w : World) (hz : SzOk w) : Calls Tryd.prog 23 #[whV r] w fun e w' => e = .returned (.int .u8 (opI r)) ∧ Below w.heap.size w w' := by
  unfold opI
  cases hg : r.reg
  · by_cases n1 : r.cls = 1
    · rw [if_pos n1]; exact opOf_a0 r w hz n1 hg
    by_cases n6 : r.cls = 6
    · rw [if_neg n1, if_pos n6]; exact opOf_j0 r w hz n6 hg
    by_cases n3 : r.cls = 3
    · rw [if_neg n1, if_neg n6, if_pos n3]; exact opOf_l0 r w hz n3 hg
    by_cases n5 : r.cls = 5
    · rw [if_neg n1, if_neg n6, if_neg n3, if_pos n5]; exact opOf_i0 r w hz n5 hg
    by_cases n4 : r.cls = 4
    · rw [if_neg n1, if_neg n6, if_neg n3, if_neg n5, if_pos n4]; exact opOf_s0 r w hz n4 hg
    by_cases n2 : r.cls = 2
    · rw [if_neg n1, if_neg n6, if_neg n3, if_neg n5, if_neg n4, if_pos n2]; exact opOf_w0 r w hz n2 hg
    by_cases n7 : r.cls = 7
    · rw [if_neg n1, if_neg n6, if_neg n3, if_neg n5, if_neg n4, if_neg n2, if_pos n7]; exact opOf_g0 r w hz n7 hg
    by_cases n8 : r.cls = 8
    · rw [if_neg n1, if_neg n6, if_neg n3, if_neg n5, if_neg n4, if_neg n2, if_neg n7, if_pos n8]; exact opOf_c0 r w hz n8 hg
    by_cases n9 : r.cls = 9
    · rw [if_neg n1, if_neg n6, if_neg n3, if_neg n5, if_neg n4, if_neg n2, if_neg n7, if_neg n8, if_pos n9]; exact opOf_x0 r w hz n9 hg
    rw [if_neg n1, if_neg n6, if_neg n3, if_neg n5, if_neg n4, if_neg n2, if_neg n7, if_neg n8, if_neg n9]
    exact opOf_z0 r w hz n1 n6 n3 n5 n4 n2 n7 n8 n9 hg
  · by_cases n1 : r.cls = 1
    · rw [if_pos n1]; exact opOf_a1 r w hz n1 hg
    by_cases n6 : r.cls = 6
    · rw [if_neg n1, if_pos n6]; exact opOf_j1 r w hz n6 hg
    by_cases n3 : r.cls = 3
    · rw [if_neg n1, if_neg n6, if_pos n3]; exact opOf_l1 r w hz n3 hg
    by_cases n5 : r.cls = 5
    · rw [if_neg n1, if_neg n6, if_neg n3, if_pos n5]; exact opOf_i1 r w hz n5 hg
    by_cases n4 : r.cls = 4
    · rw [if_neg n1, if_neg n6, if_neg n3, if_neg n5, if_pos n4]; exact opOf_s1 r w hz n4 hg
    by_cases n2 : r.cls = 2
    · rw [if_neg n1, if_neg n6, if_neg n3, if_neg n5, if_neg n4, if_pos n2]; exact opOf_w1 r w hz n2 hg
    by_cases n7 : r.cls = 7
    · rw [if_neg n1, if_neg n6, if_neg n3, if_neg n5, if_neg n4, if_neg n2, if_pos n7]; exact opOf_g1 r w hz n7 hg
    by_cases n8 : r.cls = 8
    · rw [if_neg n1, if_neg n6, if_neg n3, if_neg n5, if_neg n4, if_neg n2, if_neg n7, if_pos n8]; exact opOf_c1 r w hz n8 hg
    by_cases n9 : r.cls = 9
    · rw [if_neg n1, if_neg n6, if_neg n3, if_neg n5, if_neg n4, if_neg n2, if_neg n7, if_neg n8, if_pos n9]; exact opOf_x1 r w hz n9 hg
    rw [if_neg n1, if_neg n6, if_neg n3, if_neg n5, if_neg n4, if_neg n2, if_neg n7, if_neg n8, if_neg n9]
    exact opOf_z1 r w hz n1 n6 n3 n5 n4 n2 n7 n8 n9 hg
end Go.Proofs.YtkapbeipjjcalaaDoor
