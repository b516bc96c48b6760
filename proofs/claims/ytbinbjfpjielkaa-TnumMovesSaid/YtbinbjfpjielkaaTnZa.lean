/-
  Contracts of the laws' member, ops and done, and of the document's Alu where the laws of tnums ask it.
-/
import Derived.Test.YtbinbjfpjielkaaTnH
import Derived.Test.YtbinbjfpjielkaaTnU
namespace Go.Proofs.Ytbinbjfpjielkaa
set_option linter.unusedSimpArgs false
set_option linter.unusedVariables false
open Go.ChangeShapes Go.WideShapes Go.ChangeAt Go.RowKit

theorem rfit_t (x : B64) (w : World) : Calls Try.prog 56 #[.bool true, .int .u64 (ub x)] w fun e w' => e = .returned (.int .u64 (ub x)) ∧ w = w' := by
  go_enter Try.func56, Try.ntmps56
  go_wp2
  go_ret
  exact ⟨rfl, rfl⟩
theorem rsize_t (w : World) : Calls Try.prog 82 #[.bool true] w fun e w' => e = .returned (.int .u64 64) ∧ w = w' := by
  go_enter Try.func82, Try.ntmps82
  go_wp2
  go_ret
  exact ⟨rfl, rfl⟩
/-- What an operation makes of two numbers, and of two tnums. -/
def opN (op : Nat) (x y : B64) : B64 := if op = 0 then x + y else if op = 1 then x - y else if op = 2 then x * y else if op = 4 then x ||| y else if op = 5 then x &&& y else x ^^^ y
def opT (op : Nat) (a b : Tn) : Tn := if op = 0 then sumT a b else if op = 1 then subT a b else if op = 2 then mulT a b else if op = 4 then orT a b else if op = 5 then andT a b else xorT a b
def opOk (op : Nat) : Prop := op = 0 ∨ op = 1 ∨ op = 2 ∨ op = 4 ∨ op = 5 ∨ op = 10
theorem op_may (op : Nat) (a b : Tn) : tmay (opT op a b) = true := by
  unfold opT
  repeat' split
  all_goals first | exact mul_may a b | exact but_may _ _
theorem op_sound {op : Nat} (ho : opOk op) {a b : Tn} (ha : tmay a = true) (hb : tmay b = true) {x y : B64} (hx : Hs a x) (hy : Hs b y) : thas (opT op a b) (opN op x y) = true := by
  rw [has_iff]
  refine ⟨op_may op a b, ?_⟩
  rcases ho with rfl | rfl | rfl | rfl | rfl | rfl
  · exact sum_sound ha hb hx hy
  · exact sub_sound ha hb hx hy
  · exact mul_sound ha hb hx hy
  · exact or_sound ha hb hx hy
  · exact and_sound ha hb hx hy
  · exact xor_sound ha hb hx hy
theorem ralu_is (op : Nat) (ho : opOk op) (x y : B64) (w : World) : Calls Try.prog 53 #[.int .i64 (op : Int), .bool true, .int .u64 (ub x), .int .u64 (ub y)] w fun e w' => e = .returned (.tuple #[.int .u64 (ub (opN op x y)), .int .i64 0]) ∧ w = w' := by
  have y0 := ub_ge y
  rcases ho with rfl | rfl | rfl | rfl | rfl | rfl
  · go_enter Try.func53, Try.ntmps53
    go_wp2_with fail
    refine (rfit_t x _).mono ?_
    rintro e w' ⟨rfl, rfl⟩
    go_wp2_with fail
    refine (rfit_t y _).mono ?_
    rintro e w' ⟨rfl, rfl⟩
    go_wp2_with fail
    refine (rsize_t _).mono ?_
    rintro e w' ⟨rfl, rfl⟩
    go_wp2_with fail
    refine (rfit_t (x + y) _).mono ?_
    rintro e w' ⟨rfl, rfl⟩
    go_wp2
    refine bodyPost_ret (v := .tuple #[.int .u64 (ub (x + y)), .int .i64 0]) (by simp [results, Try.results53, go_sem]; try rfl) rfl ⟨rfl, rfl⟩
  · go_enter Try.func53, Try.ntmps53
    go_wp2_with fail
    refine (rfit_t x _).mono ?_
    rintro e w' ⟨rfl, rfl⟩
    go_wp2_with fail
    refine (rfit_t y _).mono ?_
    rintro e w' ⟨rfl, rfl⟩
    go_wp2_with fail
    refine (rsize_t _).mono ?_
    rintro e w' ⟨rfl, rfl⟩
    go_wp2_with fail
    refine (rfit_t (x - y) _).mono ?_
    rintro e w' ⟨rfl, rfl⟩
    go_wp2
    refine bodyPost_ret (v := .tuple #[.int .u64 (ub (x - y)), .int .i64 0]) (by simp [results, Try.results53, go_sem]; try rfl) rfl ⟨rfl, rfl⟩
  · go_enter Try.func53, Try.ntmps53
    go_wp2_with fail
    refine (rfit_t x _).mono ?_
    rintro e w' ⟨rfl, rfl⟩
    go_wp2_with fail
    refine (rfit_t y _).mono ?_
    rintro e w' ⟨rfl, rfl⟩
    go_wp2_with fail
    refine (rsize_t _).mono ?_
    rintro e w' ⟨rfl, rfl⟩
    go_wp2_with fail
    refine (rfit_t (x * y) _).mono ?_
    rintro e w' ⟨rfl, rfl⟩
    go_wp2
    refine bodyPost_ret (v := .tuple #[.int .u64 (ub (x * y)), .int .i64 0]) (by simp [results, Try.results53, go_sem]; try rfl) rfl ⟨rfl, rfl⟩
  · go_enter Try.func53, Try.ntmps53
    go_wp2_with fail
    refine (rfit_t x _).mono ?_
    rintro e w' ⟨rfl, rfl⟩
    go_wp2_with fail
    refine (rfit_t y _).mono ?_
    rintro e w' ⟨rfl, rfl⟩
    go_wp2_with fail
    refine (rsize_t _).mono ?_
    rintro e w' ⟨rfl, rfl⟩
    go_wp2_with fail
    refine (rfit_t (x ||| y) _).mono ?_
    rintro e w' ⟨rfl, rfl⟩
    go_wp2
    refine bodyPost_ret (v := .tuple #[.int .u64 (ub (x ||| y)), .int .i64 0]) (by simp [results, Try.results53, go_sem]; try rfl) rfl ⟨rfl, rfl⟩
  · go_enter Try.func53, Try.ntmps53
    go_wp2_with fail
    refine (rfit_t x _).mono ?_
    rintro e w' ⟨rfl, rfl⟩
    go_wp2_with fail
    refine (rfit_t y _).mono ?_
    rintro e w' ⟨rfl, rfl⟩
    go_wp2_with fail
    refine (rsize_t _).mono ?_
    rintro e w' ⟨rfl, rfl⟩
    go_wp2_with fail
    refine (rfit_t (x &&& y) _).mono ?_
    rintro e w' ⟨rfl, rfl⟩
    go_wp2
    refine bodyPost_ret (v := .tuple #[.int .u64 (ub (x &&& y)), .int .i64 0]) (by simp [results, Try.results53, go_sem]; try rfl) rfl ⟨rfl, rfl⟩
  · go_enter Try.func53, Try.ntmps53
    go_wp2_with fail
    refine (rfit_t x _).mono ?_
    rintro e w' ⟨rfl, rfl⟩
    go_wp2_with fail
    refine (rfit_t y _).mono ?_
    rintro e w' ⟨rfl, rfl⟩
    go_wp2_with fail
    refine (rsize_t _).mono ?_
    rintro e w' ⟨rfl, rfl⟩
    go_wp2_with fail
    refine (rfit_t (x ^^^ y) _).mono ?_
    rintro e w' ⟨rfl, rfl⟩
    go_wp2
    refine bodyPost_ret (v := .tuple #[.int .u64 (ub (x ^^^ y)), .int .i64 0]) (by simp [results, Try.results53, go_sem]; try rfl) rfl ⟨rfl, rfl⟩
def memB (a : Tn) (n : B64) : B64 := a.1 ||| (n &&& a.2)
theorem mem_hs {a : Tn} (h : tmay a = true) (n : B64) : Hs a (memB a n) := by
  apply b_ext
  intro i hi
  unfold memB
  rw [bt_and, bt_not _ _ hi, bt_or, bt_and]
  have := may_bit h i
  revert this
  cases bt a.1 i <;> cases bt a.2 i <;> cases bt n i <;> simp
theorem member_any (a : Tn) (n : B64) (w : World) : Calls Try.prog 50 #[tv a, .int .u64 (ub n)] w fun e w' => e = .returned (.int .u64 (ub (memB a n))) ∧ Below w.heap.size w w' := by
  unfold tv
  go_enter Try.func50, Try.ntmps50
  go_wp2
  go_ret
  exact ⟨rfl, (Below.refl _ _).alloc (Nat.le_refl _) _⟩
def opsV : Value := .agg #[.int .i64 0, .int .i64 1, .int .i64 2, .int .i64 4, .int .i64 5, .int .i64 10]
theorem ops_any (w : World) : Calls Try.prog 51 #[] w fun e w' => e = .returned opsV ∧ Below w.heap.size w w' := by
  go_enter Try.func51, Try.ntmps51
  go_wp2
  exact bodyPost_ret (v := opsV) (by simp [results, Try.results51, go_sem]; try rfl) rfl ⟨rfl, (Below.refl _ _).alloc (Nat.le_refl _) _⟩
theorem done_any (op : Nat) (ho : opOk op) (a b : Tn) (w : World) : Calls Try.prog 52 #[.int .i64 (op : Int), tv a, tv b] w fun e w' => e = .returned (.tuple #[tv (bothT a b (opT op a b)), .int .i64 (bothE a b)]) ∧ Below w.heap.size w w' := by
  obtain ⟨R, hR⟩ : ∃ R, R = bothT a b (opT op a b) := ⟨_, rfl⟩
  rw [← hR]
  rcases ho with rfl | rfl | rfl | rfl | rfl | rfl
  · have HC := fun W => tAdd_any a b W
    rw [show bothT a b (sumT a b) = R from hR.symm] at HC
    have HX := hid HC
    clear HC hR
    generalize bothE a b = E at *
    unfold tv at HX ⊢
    go_enter Try.func52, Try.ntmps52
    go_wp2_with fail
    refine (HX.out _).mono ?_
    rintro e w1 ⟨rfl, b1⟩
    have hb : Below w.heap.size w w1 := (((((Below.refl _ _).alloc (Nat.le_refl _) _).alloc (by simp) _).alloc (by simp; omega) _).trans (b1.mono (by simp; omega)))
    obtain ⟨hc, hf⟩ := bcell b1
    have hz : w.heap.size + 1 + 1 < w1.heap.size := by have := b1.size; simp at this; omega
    have HB := hid hb
    clear b1 hb
    go_wp2
    refine bodyPost_ret (v := .tuple #[.agg #[.int .u64 (ub R.1), .int .u64 (ub R.2)], .int .i64 E]) (by simp [results, Try.results52, go_sem, hc, hz]; try rfl) rfl ⟨rfl, ?_⟩
    exact (HB.out.setCell (by simp; omega) _).setCell (by simp; omega) _
  · have HC := fun W => tSub_any a b W
    rw [show bothT a b (subT a b) = R from hR.symm] at HC
    have HX := hid HC
    clear HC hR
    generalize bothE a b = E at *
    unfold tv at HX ⊢
    go_enter Try.func52, Try.ntmps52
    go_wp2_with fail
    refine (HX.out _).mono ?_
    rintro e w1 ⟨rfl, b1⟩
    have hb : Below w.heap.size w w1 := (((((Below.refl _ _).alloc (Nat.le_refl _) _).alloc (by simp) _).alloc (by simp; omega) _).trans (b1.mono (by simp; omega)))
    obtain ⟨hc, hf⟩ := bcell b1
    have hz : w.heap.size + 1 + 1 < w1.heap.size := by have := b1.size; simp at this; omega
    have HB := hid hb
    clear b1 hb
    go_wp2
    refine bodyPost_ret (v := .tuple #[.agg #[.int .u64 (ub R.1), .int .u64 (ub R.2)], .int .i64 E]) (by simp [results, Try.results52, go_sem, hc, hz]; try rfl) rfl ⟨rfl, ?_⟩
    exact (HB.out.setCell (by simp; omega) _).setCell (by simp; omega) _
  · have HC := fun W => tMul_any a b W
    rw [show bothT a b (mulT a b) = R from hR.symm] at HC
    have HX := hid HC
    clear HC hR
    generalize bothE a b = E at *
    unfold tv at HX ⊢
    go_enter Try.func52, Try.ntmps52
    go_wp2_with fail
    refine (HX.out _).mono ?_
    rintro e w1 ⟨rfl, b1⟩
    have hb : Below w.heap.size w w1 := (((((Below.refl _ _).alloc (Nat.le_refl _) _).alloc (by simp) _).alloc (by simp; omega) _).trans (b1.mono (by simp; omega)))
    obtain ⟨hc, hf⟩ := bcell b1
    have hz : w.heap.size + 1 + 1 < w1.heap.size := by have := b1.size; simp at this; omega
    have HB := hid hb
    clear b1 hb
    go_wp2
    refine bodyPost_ret (v := .tuple #[.agg #[.int .u64 (ub R.1), .int .u64 (ub R.2)], .int .i64 E]) (by simp [results, Try.results52, go_sem, hc, hz]; try rfl) rfl ⟨rfl, ?_⟩
    exact (HB.out.setCell (by simp; omega) _).setCell (by simp; omega) _
  · have HC := fun W => tOr_any a b W
    rw [show bothT a b (orT a b) = R from hR.symm] at HC
    have HX := hid HC
    clear HC hR
    generalize bothE a b = E at *
    unfold tv at HX ⊢
    go_enter Try.func52, Try.ntmps52
    go_wp2_with fail
    refine (HX.out _).mono ?_
    rintro e w1 ⟨rfl, b1⟩
    have hb : Below w.heap.size w w1 := (((((Below.refl _ _).alloc (Nat.le_refl _) _).alloc (by simp) _).alloc (by simp; omega) _).trans (b1.mono (by simp; omega)))
    obtain ⟨hc, hf⟩ := bcell b1
    have hz : w.heap.size + 1 + 1 < w1.heap.size := by have := b1.size; simp at this; omega
    have HB := hid hb
    clear b1 hb
    go_wp2
    refine bodyPost_ret (v := .tuple #[.agg #[.int .u64 (ub R.1), .int .u64 (ub R.2)], .int .i64 E]) (by simp [results, Try.results52, go_sem, hc, hz]; try rfl) rfl ⟨rfl, ?_⟩
    exact (HB.out.setCell (by simp; omega) _).setCell (by simp; omega) _
  · have HC := fun W => tAnd_any a b W
    rw [show bothT a b (andT a b) = R from hR.symm] at HC
    have HX := hid HC
    clear HC hR
    generalize bothE a b = E at *
    unfold tv at HX ⊢
    go_enter Try.func52, Try.ntmps52
    go_wp2_with fail
    refine (HX.out _).mono ?_
    rintro e w1 ⟨rfl, b1⟩
    have hb : Below w.heap.size w w1 := (((((Below.refl _ _).alloc (Nat.le_refl _) _).alloc (by simp) _).alloc (by simp; omega) _).trans (b1.mono (by simp; omega)))
    obtain ⟨hc, hf⟩ := bcell b1
    have hz : w.heap.size + 1 + 1 < w1.heap.size := by have := b1.size; simp at this; omega
    have HB := hid hb
    clear b1 hb
    go_wp2
    refine bodyPost_ret (v := .tuple #[.agg #[.int .u64 (ub R.1), .int .u64 (ub R.2)], .int .i64 E]) (by simp [results, Try.results52, go_sem, hc, hz]; try rfl) rfl ⟨rfl, ?_⟩
    exact (HB.out.setCell (by simp; omega) _).setCell (by simp; omega) _
  · have HC := fun W => tXor_any a b W
    rw [show bothT a b (xorT a b) = R from hR.symm] at HC
    have HX := hid HC
    clear HC hR
    generalize bothE a b = E at *
    unfold tv at HX ⊢
    go_enter Try.func52, Try.ntmps52
    go_wp2_with fail
    refine (HX.out _).mono ?_
    rintro e w1 ⟨rfl, b1⟩
    have hb : Below w.heap.size w w1 := (((((Below.refl _ _).alloc (Nat.le_refl _) _).alloc (by simp) _).alloc (by simp; omega) _).trans (b1.mono (by simp; omega)))
    obtain ⟨hc, hf⟩ := bcell b1
    have hz : w.heap.size + 1 + 1 < w1.heap.size := by have := b1.size; simp at this; omega
    have HB := hid hb
    clear b1 hb
    go_wp2
    refine bodyPost_ret (v := .tuple #[.agg #[.int .u64 (ub R.1), .int .u64 (ub R.2)], .int .i64 E]) (by simp [results, Try.results52, go_sem, hc, hz]; try rfl) rfl ⟨rfl, ?_⟩
    exact (HB.out.setCell (by simp; omega) _).setCell (by simp; omega) _
end Go.Proofs.Ytbinbjfpjielkaa
