/-
  Contracts of package insn's rowOf, take and Of, as the landed code has them.
-/
import Derived.Test.YtdnkikgfiganaaaDoorInsnA
import Derived.Test.YtdnkikgfiganaaaDoorInsnB
import Derived.Test.YtdnkikgfiganaaaDoorInsnC
namespace Go.Proofs.YtdnkikgfiganaaaDoor
set_option linter.unusedSimpArgs false
set_option linter.unusedVariables false
open Go.ChangeShapes Go.WideShapes Go.ChangeAt Go.RowKit
theorem bcell {W w1 : World} (hb : Below W.heap.size W w1) : (∀ b o, b < W.heap.size → w1.cell? ⟨b, o, none⟩ = W.cell? ⟨b, o, none⟩) ∧ (∀ b o, b < W.heap.size → w1.frozen? ⟨b, o, none⟩ = W.frozen? ⟨b, o, none⟩) :=
  ⟨fun b o h => hb.cell (p := ⟨b, o, none⟩) h, fun b o h => hb.frozen (p := ⟨b, o, none⟩) h⟩

def insV (op dst src off imm : Int) : Value := .agg #[.int .u8 op, .int .u8 dst, .int .u8 src, .int .i16 off, .int .i32 imm]


theorem rowOf_a (dst src off imm : Int) (w : World) : Calls Tryd.prog 69 #[.agg #[.int .u8 215, .int .u8 dst, .int .u8 src, .int .i16 off, .int .i32 imm]] w fun e w' => e = .returned (rowV (swapI imm)) ∧ Below w.heap.size w w' := by
  go_enter Tryd.func69, Tryd.ntmps69
  go_wp2_with fail
  refine (swapRow_any imm _).mono ?_
  rintro e w1 ⟨rfl, b1⟩
  obtain ⟨hc, hf⟩ := bcell b1
  have hb1 : Below w.heap.size w w1 := (((Below.refl _ _).alloc (Nat.le_refl _) _).alloc (by simp) _).trans (b1.mono (by simp; omega))
  have hz : w.heap.size + 1 < w1.heap.size := by have := b1.size; simp at this; omega
  clear b1
  unfold rowV
  go_wp2
  exact bodyPost_ret (v := rowV _) (by simp [results, Tryd.results69, go_sem, hc, hz]; rfl) rfl ⟨rfl, (((((((((hb1.setCell (by simp) _).setCell (by simp) _).setCell (by simp) _).setCell (by simp) _).setCell (by simp) _).setCell (by simp) _).setCell (by simp) _).setCell (by simp) _).setCell (by simp) _)⟩

theorem rowOf_b (dst src off imm : Int) (w : World) : Calls Tryd.prog 69 #[.agg #[.int .u8 24, .int .u8 dst, .int .u8 src, .int .i16 off, .int .i32 imm]] w fun e w' => e = .returned (rowV (constI src)) ∧ Below w.heap.size w w' := by
  go_enter Tryd.func69, Tryd.ntmps69
  go_wp2_with fail
  refine (constRow_any src _).mono ?_
  rintro e w1 ⟨rfl, b1⟩
  obtain ⟨hc, hf⟩ := bcell b1
  have hb1 : Below w.heap.size w w1 := (((Below.refl _ _).alloc (Nat.le_refl _) _).alloc (by simp) _).trans (b1.mono (by simp; omega))
  have hz : w.heap.size + 1 < w1.heap.size := by have := b1.size; simp at this; omega
  clear b1
  unfold rowV
  go_wp2
  exact bodyPost_ret (v := rowV _) (by simp [results, Tryd.results69, go_sem, hc, hz]; rfl) rfl ⟨rfl, (((((((((hb1.setCell (by simp) _).setCell (by simp) _).setCell (by simp) _).setCell (by simp) _).setCell (by simp) _).setCell (by simp) _).setCell (by simp) _).setCell (by simp) _).setCell (by simp) _)⟩

theorem rowOf_c (dst src off imm : Int) (w : World) : Calls Tryd.prog 69 #[.agg #[.int .u8 5, .int .u8 dst, .int .u8 src, .int .i16 off, .int .i32 imm]] w fun e w' => e = .returned (rowV (⟨7, 0, 0, false, false, 0, 0, 1, 0⟩)) ∧ Below w.heap.size w w' := by
  go_enter Tryd.func69, Tryd.ntmps69
  go_wp2
  exact bodyPost_ret (v := rowV _) (by simp [results, Tryd.results69, go_sem]; rfl) rfl ⟨rfl, ((Below.refl _ _).alloc (Nat.le_refl _) _).alloc (by simp) _⟩

theorem rowOf_d (dst src off imm : Int) (w : World) : Calls Tryd.prog 69 #[.agg #[.int .u8 133, .int .u8 dst, .int .u8 src, .int .i16 off, .int .i32 imm]] w fun e w' => e = .returned (rowV (⟨8, 0, 0, false, false, 0, 0, 0, 1⟩)) ∧ Below w.heap.size w w' := by
  go_enter Tryd.func69, Tryd.ntmps69
  go_wp2
  exact bodyPost_ret (v := rowV _) (by simp [results, Tryd.results69, go_sem]; rfl) rfl ⟨rfl, ((Below.refl _ _).alloc (Nat.le_refl _) _).alloc (by simp) _⟩

theorem rowOf_e (dst src off imm : Int) (w : World) : Calls Tryd.prog 69 #[.agg #[.int .u8 149, .int .u8 dst, .int .u8 src, .int .i16 off, .int .i32 imm]] w fun e w' => e = .returned (rowV (⟨9, 0, 0, false, false, 0, 0, 0, 0⟩)) ∧ Below w.heap.size w w' := by
  go_enter Tryd.func69, Tryd.ntmps69
  go_wp2
  exact bodyPost_ret (v := rowV _) (by simp [results, Tryd.results69, go_sem]; rfl) rfl ⟨rfl, ((Below.refl _ _).alloc (Nat.le_refl _) _).alloc (by simp) _⟩

theorem rowOf_m1 (op dst src off imm : Int) (w : World) (h0 : 0 ≤ op) (h1 : op < 256) (n0 : ¬ op = 215) (n1 : ¬ op = 5) (n2 : ¬ op = 133) (n3 : ¬ op = 149) (n4 : ¬ op = 24) (hz0 : SzOk w) (hm : op % 8 = 1) : Calls Tryd.prog 69 #[.agg #[.int .u8 op, .int .u8 dst, .int .u8 src, .int .i16 off, .int .i32 imm]] w fun e w' => e = .returned (rowV (memI op)) ∧ Below w.heap.size w w' := by
  have e0 : (op == 215) = false := by simpa using n0
  have e1 : (op == 5) = false := by simpa using n1
  have e2 : (op == 133) = false := by simpa using n2
  have e3 : (op == 149) = false := by simpa using n3
  have e4 : (op == 24) = false := by simpa using n4
  clear n0 n1 n2 n3 n4
  have g1 : bits .and .u8 op 7 = 1 := by rw [u8_and7 op h0 h1, hm]
  clear hm
  go_enter Tryd.func69, Tryd.ntmps69
  go_wp2_with fail
  refine (memoryRow_any op _ h0 h1 ((hz0.alloc _).alloc _)).mono ?_
  rintro e w1 ⟨rfl, b1⟩
  obtain ⟨hc, hf⟩ := bcell b1
  have hb1 : Below w.heap.size w w1 := (((Below.refl _ _).alloc (Nat.le_refl _) _).alloc (by simp) _).trans (b1.mono (by simp; omega))
  have hz : w.heap.size + 1 < w1.heap.size := by have := b1.size; simp at this; omega
  clear b1
  unfold rowV
  go_wp2
  exact bodyPost_ret (v := rowV _) (by simp [results, Tryd.results69, go_sem, hc, hz]; rfl) rfl ⟨rfl, (((((((((hb1.setCell (by simp) _).setCell (by simp) _).setCell (by simp) _).setCell (by simp) _).setCell (by simp) _).setCell (by simp) _).setCell (by simp) _).setCell (by simp) _).setCell (by simp) _)⟩

theorem rowOf_m2 (op dst src off imm : Int) (w : World) (h0 : 0 ≤ op) (h1 : op < 256) (n0 : ¬ op = 215) (n1 : ¬ op = 5) (n2 : ¬ op = 133) (n3 : ¬ op = 149) (n4 : ¬ op = 24) (hz0 : SzOk w) (hm : op % 8 = 2) : Calls Tryd.prog 69 #[.agg #[.int .u8 op, .int .u8 dst, .int .u8 src, .int .i16 off, .int .i32 imm]] w fun e w' => e = .returned (rowV (memI op)) ∧ Below w.heap.size w w' := by
  have e0 : (op == 215) = false := by simpa using n0
  have e1 : (op == 5) = false := by simpa using n1
  have e2 : (op == 133) = false := by simpa using n2
  have e3 : (op == 149) = false := by simpa using n3
  have e4 : (op == 24) = false := by simpa using n4
  clear n0 n1 n2 n3 n4
  have g1 : bits .and .u8 op 7 = 2 := by rw [u8_and7 op h0 h1, hm]
  clear hm
  go_enter Tryd.func69, Tryd.ntmps69
  go_wp2_with fail
  refine (memoryRow_any op _ h0 h1 ((hz0.alloc _).alloc _)).mono ?_
  rintro e w1 ⟨rfl, b1⟩
  obtain ⟨hc, hf⟩ := bcell b1
  have hb1 : Below w.heap.size w w1 := (((Below.refl _ _).alloc (Nat.le_refl _) _).alloc (by simp) _).trans (b1.mono (by simp; omega))
  have hz : w.heap.size + 1 < w1.heap.size := by have := b1.size; simp at this; omega
  clear b1
  unfold rowV
  go_wp2
  exact bodyPost_ret (v := rowV _) (by simp [results, Tryd.results69, go_sem, hc, hz]; rfl) rfl ⟨rfl, (((((((((hb1.setCell (by simp) _).setCell (by simp) _).setCell (by simp) _).setCell (by simp) _).setCell (by simp) _).setCell (by simp) _).setCell (by simp) _).setCell (by simp) _).setCell (by simp) _)⟩

theorem rowOf_m3 (op dst src off imm : Int) (w : World) (h0 : 0 ≤ op) (h1 : op < 256) (n0 : ¬ op = 215) (n1 : ¬ op = 5) (n2 : ¬ op = 133) (n3 : ¬ op = 149) (n4 : ¬ op = 24) (hz0 : SzOk w) (hm : op % 8 = 3) : Calls Tryd.prog 69 #[.agg #[.int .u8 op, .int .u8 dst, .int .u8 src, .int .i16 off, .int .i32 imm]] w fun e w' => e = .returned (rowV (memI op)) ∧ Below w.heap.size w w' := by
  have e0 : (op == 215) = false := by simpa using n0
  have e1 : (op == 5) = false := by simpa using n1
  have e2 : (op == 133) = false := by simpa using n2
  have e3 : (op == 149) = false := by simpa using n3
  have e4 : (op == 24) = false := by simpa using n4
  clear n0 n1 n2 n3 n4
  have g1 : bits .and .u8 op 7 = 3 := by rw [u8_and7 op h0 h1, hm]
  clear hm
  go_enter Tryd.func69, Tryd.ntmps69
  go_wp2_with fail
  refine (memoryRow_any op _ h0 h1 ((hz0.alloc _).alloc _)).mono ?_
  rintro e w1 ⟨rfl, b1⟩
  obtain ⟨hc, hf⟩ := bcell b1
  have hb1 : Below w.heap.size w w1 := (((Below.refl _ _).alloc (Nat.le_refl _) _).alloc (by simp) _).trans (b1.mono (by simp; omega))
  have hz : w.heap.size + 1 < w1.heap.size := by have := b1.size; simp at this; omega
  clear b1
  unfold rowV
  go_wp2
  exact bodyPost_ret (v := rowV _) (by simp [results, Tryd.results69, go_sem, hc, hz]; rfl) rfl ⟨rfl, (((((((((hb1.setCell (by simp) _).setCell (by simp) _).setCell (by simp) _).setCell (by simp) _).setCell (by simp) _).setCell (by simp) _).setCell (by simp) _).setCell (by simp) _).setCell (by simp) _)⟩

theorem rowOf_x4 (op dst src off imm : Int) (w : World) (h0 : 0 ≤ op) (h1 : op < 256) (n0 : ¬ op = 215) (n1 : ¬ op = 5) (n2 : ¬ op = 133) (n3 : ¬ op = 149) (n4 : ¬ op = 24) (hm : op % 8 = 4) : Calls Tryd.prog 69 #[.agg #[.int .u8 op, .int .u8 dst, .int .u8 src, .int .i16 off, .int .i32 imm]] w fun e w' => e = .returned (rowV (aluR op)) ∧ Below w.heap.size w w' := by
  have e0 : (op == 215) = false := by simpa using n0
  have e1 : (op == 5) = false := by simpa using n1
  have e2 : (op == 133) = false := by simpa using n2
  have e3 : (op == 149) = false := by simpa using n3
  have e4 : (op == 24) = false := by simpa using n4
  clear n0 n1 n2 n3 n4
  have g1 : bits .and .u8 op 7 = 4 := by rw [u8_and7 op h0 h1, hm]
  clear hm
  go_enter Tryd.func69, Tryd.ntmps69
  go_wp2_with fail
  refine (aluRow_any op _ h0 h1).mono ?_
  rintro e w1 ⟨rfl, b1⟩
  obtain ⟨hc, hf⟩ := bcell b1
  have hb1 : Below w.heap.size w w1 := (((Below.refl _ _).alloc (Nat.le_refl _) _).alloc (by simp) _).trans (b1.mono (by simp; omega))
  have hz : w.heap.size + 1 < w1.heap.size := by have := b1.size; simp at this; omega
  clear b1
  unfold rowV
  go_wp2
  exact bodyPost_ret (v := rowV _) (by simp [results, Tryd.results69, go_sem, hc, hz]; rfl) rfl ⟨rfl, (((((((((hb1.setCell (by simp) _).setCell (by simp) _).setCell (by simp) _).setCell (by simp) _).setCell (by simp) _).setCell (by simp) _).setCell (by simp) _).setCell (by simp) _).setCell (by simp) _)⟩

theorem rowOf_x7 (op dst src off imm : Int) (w : World) (h0 : 0 ≤ op) (h1 : op < 256) (n0 : ¬ op = 215) (n1 : ¬ op = 5) (n2 : ¬ op = 133) (n3 : ¬ op = 149) (n4 : ¬ op = 24) (hm : op % 8 = 7) : Calls Tryd.prog 69 #[.agg #[.int .u8 op, .int .u8 dst, .int .u8 src, .int .i16 off, .int .i32 imm]] w fun e w' => e = .returned (rowV (aluR op)) ∧ Below w.heap.size w w' := by
  have e0 : (op == 215) = false := by simpa using n0
  have e1 : (op == 5) = false := by simpa using n1
  have e2 : (op == 133) = false := by simpa using n2
  have e3 : (op == 149) = false := by simpa using n3
  have e4 : (op == 24) = false := by simpa using n4
  clear n0 n1 n2 n3 n4
  have g1 : bits .and .u8 op 7 = 7 := by rw [u8_and7 op h0 h1, hm]
  clear hm
  go_enter Tryd.func69, Tryd.ntmps69
  go_wp2_with fail
  refine (aluRow_any op _ h0 h1).mono ?_
  rintro e w1 ⟨rfl, b1⟩
  obtain ⟨hc, hf⟩ := bcell b1
  have hb1 : Below w.heap.size w w1 := (((Below.refl _ _).alloc (Nat.le_refl _) _).alloc (by simp) _).trans (b1.mono (by simp; omega))
  have hz : w.heap.size + 1 < w1.heap.size := by have := b1.size; simp at this; omega
  clear b1
  unfold rowV
  go_wp2
  exact bodyPost_ret (v := rowV _) (by simp [results, Tryd.results69, go_sem, hc, hz]; rfl) rfl ⟨rfl, (((((((((hb1.setCell (by simp) _).setCell (by simp) _).setCell (by simp) _).setCell (by simp) _).setCell (by simp) _).setCell (by simp) _).setCell (by simp) _).setCell (by simp) _).setCell (by simp) _)⟩

theorem rowOf_j5 (op dst src off imm : Int) (w : World) (h0 : 0 ≤ op) (h1 : op < 256) (n0 : ¬ op = 215) (n1 : ¬ op = 5) (n2 : ¬ op = 133) (n3 : ¬ op = 149) (n4 : ¬ op = 24) (hm : op % 8 = 5) : Calls Tryd.prog 69 #[.agg #[.int .u8 op, .int .u8 dst, .int .u8 src, .int .i16 off, .int .i32 imm]] w fun e w' => e = .returned (rowV (jmpR op)) ∧ Below w.heap.size w w' := by
  have e0 : (op == 215) = false := by simpa using n0
  have e1 : (op == 5) = false := by simpa using n1
  have e2 : (op == 133) = false := by simpa using n2
  have e3 : (op == 149) = false := by simpa using n3
  have e4 : (op == 24) = false := by simpa using n4
  clear n0 n1 n2 n3 n4
  have g1 : bits .and .u8 op 7 = 5 := by rw [u8_and7 op h0 h1, hm]
  clear hm
  go_enter Tryd.func69, Tryd.ntmps69
  go_wp2_with fail
  refine (jumpRow_any op _ h0 h1).mono ?_
  rintro e w1 ⟨rfl, b1⟩
  obtain ⟨hc, hf⟩ := bcell b1
  have hb1 : Below w.heap.size w w1 := (((Below.refl _ _).alloc (Nat.le_refl _) _).alloc (by simp) _).trans (b1.mono (by simp; omega))
  have hz : w.heap.size + 1 < w1.heap.size := by have := b1.size; simp at this; omega
  clear b1
  unfold rowV
  go_wp2
  exact bodyPost_ret (v := rowV _) (by simp [results, Tryd.results69, go_sem, hc, hz]; rfl) rfl ⟨rfl, (((((((((hb1.setCell (by simp) _).setCell (by simp) _).setCell (by simp) _).setCell (by simp) _).setCell (by simp) _).setCell (by simp) _).setCell (by simp) _).setCell (by simp) _).setCell (by simp) _)⟩

theorem rowOf_j6 (op dst src off imm : Int) (w : World) (h0 : 0 ≤ op) (h1 : op < 256) (n0 : ¬ op = 215) (n1 : ¬ op = 5) (n2 : ¬ op = 133) (n3 : ¬ op = 149) (n4 : ¬ op = 24) (hm : op % 8 = 6) : Calls Tryd.prog 69 #[.agg #[.int .u8 op, .int .u8 dst, .int .u8 src, .int .i16 off, .int .i32 imm]] w fun e w' => e = .returned (rowV (jmpR op)) ∧ Below w.heap.size w w' := by
  have e0 : (op == 215) = false := by simpa using n0
  have e1 : (op == 5) = false := by simpa using n1
  have e2 : (op == 133) = false := by simpa using n2
  have e3 : (op == 149) = false := by simpa using n3
  have e4 : (op == 24) = false := by simpa using n4
  clear n0 n1 n2 n3 n4
  have g1 : bits .and .u8 op 7 = 6 := by rw [u8_and7 op h0 h1, hm]
  clear hm
  go_enter Tryd.func69, Tryd.ntmps69
  go_wp2_with fail
  refine (jumpRow_any op _ h0 h1).mono ?_
  rintro e w1 ⟨rfl, b1⟩
  obtain ⟨hc, hf⟩ := bcell b1
  have hb1 : Below w.heap.size w w1 := (((Below.refl _ _).alloc (Nat.le_refl _) _).alloc (by simp) _).trans (b1.mono (by simp; omega))
  have hz : w.heap.size + 1 < w1.heap.size := by have := b1.size; simp at this; omega
  clear b1
  unfold rowV
  go_wp2
  exact bodyPost_ret (v := rowV _) (by simp [results, Tryd.results69, go_sem, hc, hz]; rfl) rfl ⟨rfl, (((((((((hb1.setCell (by simp) _).setCell (by simp) _).setCell (by simp) _).setCell (by simp) _).setCell (by simp) _).setCell (by simp) _).setCell (by simp) _).setCell (by simp) _).setCell (by simp) _)⟩

theorem rowOf_z (op dst src off imm : Int) (w : World) (h0 : 0 ≤ op) (h1 : op < 256) (n0 : ¬ op = 215) (n1 : ¬ op = 5) (n2 : ¬ op = 133) (n3 : ¬ op = 149) (n4 : ¬ op = 24) (hm : op % 8 = 0) : Calls Tryd.prog 69 #[.agg #[.int .u8 op, .int .u8 dst, .int .u8 src, .int .i16 off, .int .i32 imm]] w fun e w' => e = .returned (rowV (r0)) ∧ Below w.heap.size w w' := by
  have e0 : (op == 215) = false := by simpa using n0
  have e1 : (op == 5) = false := by simpa using n1
  have e2 : (op == 133) = false := by simpa using n2
  have e3 : (op == 149) = false := by simpa using n3
  have e4 : (op == 24) = false := by simpa using n4
  clear n0 n1 n2 n3 n4
  have g1 : bits .and .u8 op 7 = 0 := by rw [u8_and7 op h0 h1, hm]
  clear hm
  go_enter Tryd.func69, Tryd.ntmps69
  go_wp2
  exact bodyPost_ret (v := rowV _) (by simp [results, Tryd.results69, go_sem]; rfl) rfl ⟨rfl, ((Below.refl _ _).alloc (Nat.le_refl _) _).alloc (by simp) _⟩

theorem rowOf_any (op dst src off imm : Int) (w : World) (h0 : 0 ≤ op) (h1 : op < 256) (hz : SzOk w) : Calls Tryd.prog 69 #[.agg #[.int .u8 op, .int .u8 dst, .int .u8 src, .int .i16 off, .int .i32 imm]] w fun e w' => e = .returned (rowV (rowI op src imm)) ∧ Below w.heap.size w w' := by
  by_cases n0 : op = 215
  · subst n0; exact rowOf_a dst src off imm w
  by_cases n1 : op = 5
  · subst n1; exact rowOf_c dst src off imm w
  by_cases n2 : op = 133
  · subst n2; exact rowOf_d dst src off imm w
  by_cases n3 : op = 149
  · subst n3; exact rowOf_e dst src off imm w
  by_cases n4 : op = 24
  · subst n4; exact rowOf_b dst src off imm w
  have hr : rowI op src imm = if op % 8 = 1 ∨ op % 8 = 2 ∨ op % 8 = 3 then memI op else if op % 8 = 4 ∨ op % 8 = 7 then aluR op else if op % 8 = 6 ∨ op % 8 = 5 then jmpR op else r0 := by
    unfold rowI
    rw [if_neg n0, if_neg n1, if_neg n2, if_neg n3, if_neg n4]
  rw [hr]
  have hq : op % 8 = 0 ∨ op % 8 = 1 ∨ op % 8 = 2 ∨ op % 8 = 3 ∨ op % 8 = 4 ∨ op % 8 = 5 ∨ op % 8 = 6 ∨ op % 8 = 7 := by omega
  rcases hq with hm | hm | hm | hm | hm | hm | hm | hm
  · rw [if_neg (by omega), if_neg (by omega), if_neg (by omega)]; exact rowOf_z op dst src off imm w h0 h1 n0 n1 n2 n3 n4 hm
  · rw [if_pos (by omega)]; exact rowOf_m1 op dst src off imm w h0 h1 n0 n1 n2 n3 n4 hz hm
  · rw [if_pos (by omega)]; exact rowOf_m2 op dst src off imm w h0 h1 n0 n1 n2 n3 n4 hz hm
  · rw [if_pos (by omega)]; exact rowOf_m3 op dst src off imm w h0 h1 n0 n1 n2 n3 n4 hz hm
  · rw [if_neg (by omega), if_pos (by omega)]; exact rowOf_x4 op dst src off imm w h0 h1 n0 n1 n2 n3 n4 hm
  · rw [if_neg (by omega), if_neg (by omega), if_pos (by omega)]; exact rowOf_j5 op dst src off imm w h0 h1 n0 n1 n2 n3 n4 hm
  · rw [if_neg (by omega), if_neg (by omega), if_pos (by omega)]; exact rowOf_j6 op dst src off imm w h0 h1 n0 n1 n2 n3 n4 hm
  · rw [if_neg (by omega), if_pos (by omega)]; exact rowOf_x7 op dst src off imm w h0 h1 n0 n1 n2 n3 n4 hm
end Go.Proofs.YtdnkikgfiganaaaDoor
