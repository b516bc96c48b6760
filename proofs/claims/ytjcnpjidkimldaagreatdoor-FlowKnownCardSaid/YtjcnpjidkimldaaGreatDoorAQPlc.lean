/-
  The contract of memoryRow. Contracts of package insn's rowOf, take and Of, as the landed code has them. Contracts of package insn's take, Of, Writes and Places, as the landed code has them. Contract of package insn's Places, with one answer.
-/
import Derived.Test.YtjcnpjidkimldaaGreatDoorAQInsnB
namespace Go.Proofs.YtjcnpjidkimldaaGreatDoor.Is
set_option maxRecDepth 100000
open Go.ChangeShapes Go.WideShapes Go.ChangeAt Go.RowKit

theorem mem_a (op : Int) (w : World) (_h0 : 0 ≤ op) (_h1 : op < 256) (ho : op / 32 ≠ 3) : Calls Tryz.prog 171 #[.int .u8 op] w fun e w' => e = .returned (rowV (memI op)) ∧ Below w.heap.size w w' := by
  have hr : memI op = r0 := by unfold memI; rw [if_pos ho]
  rw [hr]
  clear hr
  have g3 : (op / 32 != 3) = true := by simpa using ho
  clear ho
  go_enter Tryz.func171, Tryz.ntmps171
  go_wp2
  exact bodyPost_ret (v := rowV r0) (by simp [results, Tryz.results171, go_sem]; rfl) rfl ⟨rfl, (Below.refl _ _).alloc (Nat.le_refl _) _⟩

theorem mem_b (op : Int) (w : World) (h0 : 0 ≤ op) (h1 : op < 256) (hz : SzOk w) (ho : op / 32 = 3) (hm : op % 8 = 1) : Calls Tryz.prog 171 #[.int .u8 op] w fun e w' => e = .returned (rowV (memI op)) ∧ Below w.heap.size w w' := by
  have g0 : (op / 32 != 3) = false := by simpa using ho
  have g1 := u8_and7 op h0 h1
  have g2 : (op % 8 == 1) = true := by simpa using hm
  have hr : memI op = ⟨3, 0, sizI (op / 8 % 4), false, false, 3, 2, 1, 0⟩ := by
    unfold memI
    rw [if_neg (by omega), if_pos hm]
  have hq := four (op / 8)
  obtain ⟨z, z0, z1, z2, z3⟩ := hz
  rcases hq with e | e | e | e
  · have gi : bits .and .u8 (op / 8) 3 = 0 := by rw [u8_and3 (op / 8) (by omega) (by omega), e]
    rw [show memI op = ⟨3, 0, 4, false, false, 3, 2, 1, 0⟩ from by rw [hr, e]; rfl]
    clear hr e ho hm
    go_enter Tryz.func171, Tryz.ntmps171
    go_wp2
    exact bodyPost_ret (v := rowV ⟨3, 0, 4, false, false, 3, 2, 1, 0⟩) (by simp [results, Tryz.results171, go_sem]; rfl) rfl ⟨rfl, (Below.refl _ _).alloc (Nat.le_refl _) _⟩
  · have gi : bits .and .u8 (op / 8) 3 = 1 := by rw [u8_and3 (op / 8) (by omega) (by omega), e]
    rw [show memI op = ⟨3, 0, 2, false, false, 3, 2, 1, 0⟩ from by rw [hr, e]; rfl]
    clear hr e ho hm
    go_enter Tryz.func171, Tryz.ntmps171
    go_wp2
    exact bodyPost_ret (v := rowV ⟨3, 0, 2, false, false, 3, 2, 1, 0⟩) (by simp [results, Tryz.results171, go_sem]; rfl) rfl ⟨rfl, (Below.refl _ _).alloc (Nat.le_refl _) _⟩
  · have gi : bits .and .u8 (op / 8) 3 = 2 := by rw [u8_and3 (op / 8) (by omega) (by omega), e]
    rw [show memI op = ⟨3, 0, 1, false, false, 3, 2, 1, 0⟩ from by rw [hr, e]; rfl]
    clear hr e ho hm
    go_enter Tryz.func171, Tryz.ntmps171
    go_wp2
    exact bodyPost_ret (v := rowV ⟨3, 0, 1, false, false, 3, 2, 1, 0⟩) (by simp [results, Tryz.results171, go_sem]; rfl) rfl ⟨rfl, (Below.refl _ _).alloc (Nat.le_refl _) _⟩
  · have gi : bits .and .u8 (op / 8) 3 = 3 := by rw [u8_and3 (op / 8) (by omega) (by omega), e]
    rw [show memI op = ⟨3, 0, 8, false, false, 3, 2, 1, 0⟩ from by rw [hr, e]; rfl]
    clear hr e ho hm
    go_enter Tryz.func171, Tryz.ntmps171
    go_wp2
    exact bodyPost_ret (v := rowV ⟨3, 0, 8, false, false, 3, 2, 1, 0⟩) (by simp [results, Tryz.results171, go_sem]; rfl) rfl ⟨rfl, (Below.refl _ _).alloc (Nat.le_refl _) _⟩

theorem mem_c (op : Int) (w : World) (h0 : 0 ≤ op) (h1 : op < 256) (hz : SzOk w) (ho : op / 32 = 3) (hm : op % 8 = 2) : Calls Tryz.prog 171 #[.int .u8 op] w fun e w' => e = .returned (rowV (memI op)) ∧ Below w.heap.size w w' := by
  have g0 : (op / 32 != 3) = false := by simpa using ho
  have g1 := u8_and7 op h0 h1
  have g2 : (op % 8 == 1) = false := by simp; omega
  have g3 : (op % 8 == 2) = true := by simpa using hm
  have hr : memI op = ⟨5, 0, sizI (op / 8 % 4), false, false, 2, 0, 1, 1⟩ := by
    unfold memI
    rw [if_neg (by omega), if_neg (by omega), if_pos hm]
  have hq := four (op / 8)
  obtain ⟨z, z0, z1, z2, z3⟩ := hz
  rcases hq with e | e | e | e
  · have gi : bits .and .u8 (op / 8) 3 = 0 := by rw [u8_and3 (op / 8) (by omega) (by omega), e]
    rw [show memI op = ⟨5, 0, 4, false, false, 2, 0, 1, 1⟩ from by rw [hr, e]; rfl]
    clear hr e ho hm
    go_enter Tryz.func171, Tryz.ntmps171
    go_wp2
    exact bodyPost_ret (v := rowV ⟨5, 0, 4, false, false, 2, 0, 1, 1⟩) (by simp [results, Tryz.results171, go_sem]; rfl) rfl ⟨rfl, (Below.refl _ _).alloc (Nat.le_refl _) _⟩
  · have gi : bits .and .u8 (op / 8) 3 = 1 := by rw [u8_and3 (op / 8) (by omega) (by omega), e]
    rw [show memI op = ⟨5, 0, 2, false, false, 2, 0, 1, 1⟩ from by rw [hr, e]; rfl]
    clear hr e ho hm
    go_enter Tryz.func171, Tryz.ntmps171
    go_wp2
    exact bodyPost_ret (v := rowV ⟨5, 0, 2, false, false, 2, 0, 1, 1⟩) (by simp [results, Tryz.results171, go_sem]; rfl) rfl ⟨rfl, (Below.refl _ _).alloc (Nat.le_refl _) _⟩
  · have gi : bits .and .u8 (op / 8) 3 = 2 := by rw [u8_and3 (op / 8) (by omega) (by omega), e]
    rw [show memI op = ⟨5, 0, 1, false, false, 2, 0, 1, 1⟩ from by rw [hr, e]; rfl]
    clear hr e ho hm
    go_enter Tryz.func171, Tryz.ntmps171
    go_wp2
    exact bodyPost_ret (v := rowV ⟨5, 0, 1, false, false, 2, 0, 1, 1⟩) (by simp [results, Tryz.results171, go_sem]; rfl) rfl ⟨rfl, (Below.refl _ _).alloc (Nat.le_refl _) _⟩
  · have gi : bits .and .u8 (op / 8) 3 = 3 := by rw [u8_and3 (op / 8) (by omega) (by omega), e]
    rw [show memI op = ⟨5, 0, 8, false, false, 2, 0, 1, 1⟩ from by rw [hr, e]; rfl]
    clear hr e ho hm
    go_enter Tryz.func171, Tryz.ntmps171
    go_wp2
    exact bodyPost_ret (v := rowV ⟨5, 0, 8, false, false, 2, 0, 1, 1⟩) (by simp [results, Tryz.results171, go_sem]; rfl) rfl ⟨rfl, (Below.refl _ _).alloc (Nat.le_refl _) _⟩

theorem mem_d (op : Int) (w : World) (h0 : 0 ≤ op) (h1 : op < 256) (hz : SzOk w) (ho : op / 32 = 3) (hm : ¬ op % 8 = 1) (hm2 : ¬ op % 8 = 2) : Calls Tryz.prog 171 #[.int .u8 op] w fun e w' => e = .returned (rowV (memI op)) ∧ Below w.heap.size w w' := by
  have g0 : (op / 32 != 3) = false := by simpa using ho
  have g1 := u8_and7 op h0 h1
  have g2 : (op % 8 == 1) = false := by simpa using hm
  have g3 : (op % 8 == 2) = false := by simpa using hm2
  have hr : memI op = ⟨4, 0, sizI (op / 8 % 4), false, false, 2, 2, 1, 0⟩ := by
    unfold memI
    rw [if_neg (by omega), if_neg hm, if_neg hm2]
  have hq := four (op / 8)
  obtain ⟨z, z0, z1, z2, z3⟩ := hz
  rcases hq with e | e | e | e
  · have gi : bits .and .u8 (op / 8) 3 = 0 := by rw [u8_and3 (op / 8) (by omega) (by omega), e]
    rw [show memI op = ⟨4, 0, 4, false, false, 2, 2, 1, 0⟩ from by rw [hr, e]; rfl]
    clear hr e ho hm hm2
    go_enter Tryz.func171, Tryz.ntmps171
    go_wp2
    exact bodyPost_ret (v := rowV ⟨4, 0, 4, false, false, 2, 2, 1, 0⟩) (by simp [results, Tryz.results171, go_sem]; rfl) rfl ⟨rfl, (Below.refl _ _).alloc (Nat.le_refl _) _⟩
  · have gi : bits .and .u8 (op / 8) 3 = 1 := by rw [u8_and3 (op / 8) (by omega) (by omega), e]
    rw [show memI op = ⟨4, 0, 2, false, false, 2, 2, 1, 0⟩ from by rw [hr, e]; rfl]
    clear hr e ho hm hm2
    go_enter Tryz.func171, Tryz.ntmps171
    go_wp2
    exact bodyPost_ret (v := rowV ⟨4, 0, 2, false, false, 2, 2, 1, 0⟩) (by simp [results, Tryz.results171, go_sem]; rfl) rfl ⟨rfl, (Below.refl _ _).alloc (Nat.le_refl _) _⟩
  · have gi : bits .and .u8 (op / 8) 3 = 2 := by rw [u8_and3 (op / 8) (by omega) (by omega), e]
    rw [show memI op = ⟨4, 0, 1, false, false, 2, 2, 1, 0⟩ from by rw [hr, e]; rfl]
    clear hr e ho hm hm2
    go_enter Tryz.func171, Tryz.ntmps171
    go_wp2
    exact bodyPost_ret (v := rowV ⟨4, 0, 1, false, false, 2, 2, 1, 0⟩) (by simp [results, Tryz.results171, go_sem]; rfl) rfl ⟨rfl, (Below.refl _ _).alloc (Nat.le_refl _) _⟩
  · have gi : bits .and .u8 (op / 8) 3 = 3 := by rw [u8_and3 (op / 8) (by omega) (by omega), e]
    rw [show memI op = ⟨4, 0, 8, false, false, 2, 2, 1, 0⟩ from by rw [hr, e]; rfl]
    clear hr e ho hm hm2
    go_enter Tryz.func171, Tryz.ntmps171
    go_wp2
    exact bodyPost_ret (v := rowV ⟨4, 0, 8, false, false, 2, 2, 1, 0⟩) (by simp [results, Tryz.results171, go_sem]; rfl) rfl ⟨rfl, (Below.refl _ _).alloc (Nat.le_refl _) _⟩

theorem memoryRow_any (op : Int) (w : World) (h0 : 0 ≤ op) (h1 : op < 256) (hz : SzOk w) : Calls Tryz.prog 171 #[.int .u8 op] w fun e w' => e = .returned (rowV (memI op)) ∧ Below w.heap.size w w' := by
  by_cases ho : op / 32 = 3
  · by_cases hm : op % 8 = 1
    · exact mem_b op w h0 h1 hz ho hm
    by_cases hn : op % 8 = 2
    · exact mem_c op w h0 h1 hz ho hn
    exact mem_d op w h0 h1 hz ho hm hn
  · exact mem_a op w h0 h1 ho

end Go.Proofs.YtjcnpjidkimldaaGreatDoor.Is

namespace Go.Proofs.YtjcnpjidkimldaaGreatDoor.Is
set_option linter.unusedSimpArgs false
set_option linter.unusedVariables false
set_option maxRecDepth 100000
open Go.ChangeShapes Go.WideShapes Go.ChangeAt Go.RowKit
theorem bcell {W w1 : World} (hb : Below W.heap.size W w1) : (∀ b o, b < W.heap.size → w1.cell? ⟨b, o, none⟩ = W.cell? ⟨b, o, none⟩) ∧ (∀ b o, b < W.heap.size → w1.frozen? ⟨b, o, none⟩ = W.frozen? ⟨b, o, none⟩) :=
  ⟨fun b o h => hb.cell (p := ⟨b, o, none⟩) h, fun b o h => hb.frozen (p := ⟨b, o, none⟩) h⟩

theorem rowOf_a (dst src off imm : Int) (w : World) : Calls Tryz.prog 120 #[.agg #[.int .u8 215, .int .u8 dst, .int .u8 src, .int .i16 off, .int .i32 imm]] w fun e w' => e = .returned (rowV (swapI imm)) ∧ Below w.heap.size w w' := by
  go_enter Tryz.func120, Tryz.ntmps120
  go_wp2_with fail
  refine (swapRow_any imm _).mono ?_
  rintro e w1 ⟨rfl, b1⟩
  obtain ⟨hc, hf⟩ := bcell b1
  have hb1 : Below w.heap.size w w1 := (((Below.refl _ _).alloc (Nat.le_refl _) _).alloc (by simp) _).trans (b1.mono (by simp; omega))
  have hz : w.heap.size + 1 < w1.heap.size := by have := b1.size; simp at this; omega
  clear b1
  unfold rowV
  go_wp2
  exact bodyPost_ret (v := rowV _) (by simp [results, Tryz.results120, go_sem, hc, hz]; rfl) rfl ⟨rfl, (((((((((hb1.setCell (by simp) _).setCell (by simp) _).setCell (by simp) _).setCell (by simp) _).setCell (by simp) _).setCell (by simp) _).setCell (by simp) _).setCell (by simp) _).setCell (by simp) _)⟩

theorem rowOf_b (dst src off imm : Int) (w : World) : Calls Tryz.prog 120 #[.agg #[.int .u8 24, .int .u8 dst, .int .u8 src, .int .i16 off, .int .i32 imm]] w fun e w' => e = .returned (rowV (constI src)) ∧ Below w.heap.size w w' := by
  go_enter Tryz.func120, Tryz.ntmps120
  go_wp2_with fail
  refine (constRow_any src _).mono ?_
  rintro e w1 ⟨rfl, b1⟩
  obtain ⟨hc, hf⟩ := bcell b1
  have hb1 : Below w.heap.size w w1 := (((Below.refl _ _).alloc (Nat.le_refl _) _).alloc (by simp) _).trans (b1.mono (by simp; omega))
  have hz : w.heap.size + 1 < w1.heap.size := by have := b1.size; simp at this; omega
  clear b1
  unfold rowV
  go_wp2
  exact bodyPost_ret (v := rowV _) (by simp [results, Tryz.results120, go_sem, hc, hz]; rfl) rfl ⟨rfl, (((((((((hb1.setCell (by simp) _).setCell (by simp) _).setCell (by simp) _).setCell (by simp) _).setCell (by simp) _).setCell (by simp) _).setCell (by simp) _).setCell (by simp) _).setCell (by simp) _)⟩

theorem rowOf_c (dst src off imm : Int) (w : World) : Calls Tryz.prog 120 #[.agg #[.int .u8 5, .int .u8 dst, .int .u8 src, .int .i16 off, .int .i32 imm]] w fun e w' => e = .returned (rowV (⟨7, 0, 0, false, false, 0, 0, 1, 0⟩)) ∧ Below w.heap.size w w' := by
  go_enter Tryz.func120, Tryz.ntmps120
  go_wp2
  exact bodyPost_ret (v := rowV _) (by simp [results, Tryz.results120, go_sem]; rfl) rfl ⟨rfl, ((Below.refl _ _).alloc (Nat.le_refl _) _).alloc (by simp) _⟩

theorem rowOf_d (dst src off imm : Int) (w : World) : Calls Tryz.prog 120 #[.agg #[.int .u8 133, .int .u8 dst, .int .u8 src, .int .i16 off, .int .i32 imm]] w fun e w' => e = .returned (rowV (⟨8, 0, 0, false, false, 0, 0, 0, 1⟩)) ∧ Below w.heap.size w w' := by
  go_enter Tryz.func120, Tryz.ntmps120
  go_wp2
  exact bodyPost_ret (v := rowV _) (by simp [results, Tryz.results120, go_sem]; rfl) rfl ⟨rfl, ((Below.refl _ _).alloc (Nat.le_refl _) _).alloc (by simp) _⟩

theorem rowOf_e (dst src off imm : Int) (w : World) : Calls Tryz.prog 120 #[.agg #[.int .u8 149, .int .u8 dst, .int .u8 src, .int .i16 off, .int .i32 imm]] w fun e w' => e = .returned (rowV (⟨9, 0, 0, false, false, 0, 0, 0, 0⟩)) ∧ Below w.heap.size w w' := by
  go_enter Tryz.func120, Tryz.ntmps120
  go_wp2
  exact bodyPost_ret (v := rowV _) (by simp [results, Tryz.results120, go_sem]; rfl) rfl ⟨rfl, ((Below.refl _ _).alloc (Nat.le_refl _) _).alloc (by simp) _⟩

theorem rowOf_m1 (op dst src off imm : Int) (w : World) (h0 : 0 ≤ op) (h1 : op < 256) (n0 : ¬ op = 215) (n1 : ¬ op = 5) (n2 : ¬ op = 133) (n3 : ¬ op = 149) (n4 : ¬ op = 24) (hz0 : SzOk w) (hm : op % 8 = 1) : Calls Tryz.prog 120 #[.agg #[.int .u8 op, .int .u8 dst, .int .u8 src, .int .i16 off, .int .i32 imm]] w fun e w' => e = .returned (rowV (memI op)) ∧ Below w.heap.size w w' := by
  have e0 : (op == 215) = false := by simpa using n0
  have e1 : (op == 5) = false := by simpa using n1
  have e2 : (op == 133) = false := by simpa using n2
  have e3 : (op == 149) = false := by simpa using n3
  have e4 : (op == 24) = false := by simpa using n4
  clear n0 n1 n2 n3 n4
  have g1 : bits .and .u8 op 7 = 1 := by rw [u8_and7 op h0 h1, hm]
  clear hm
  go_enter Tryz.func120, Tryz.ntmps120
  go_wp2_with fail
  refine (memoryRow_any op _ h0 h1 ((hz0.alloc _).alloc _)).mono ?_
  rintro e w1 ⟨rfl, b1⟩
  obtain ⟨hc, hf⟩ := bcell b1
  have hb1 : Below w.heap.size w w1 := (((Below.refl _ _).alloc (Nat.le_refl _) _).alloc (by simp) _).trans (b1.mono (by simp; omega))
  have hz : w.heap.size + 1 < w1.heap.size := by have := b1.size; simp at this; omega
  clear b1
  unfold rowV
  go_wp2
  exact bodyPost_ret (v := rowV _) (by simp [results, Tryz.results120, go_sem, hc, hz]; rfl) rfl ⟨rfl, (((((((((hb1.setCell (by simp) _).setCell (by simp) _).setCell (by simp) _).setCell (by simp) _).setCell (by simp) _).setCell (by simp) _).setCell (by simp) _).setCell (by simp) _).setCell (by simp) _)⟩

theorem rowOf_m2 (op dst src off imm : Int) (w : World) (h0 : 0 ≤ op) (h1 : op < 256) (n0 : ¬ op = 215) (n1 : ¬ op = 5) (n2 : ¬ op = 133) (n3 : ¬ op = 149) (n4 : ¬ op = 24) (hz0 : SzOk w) (hm : op % 8 = 2) : Calls Tryz.prog 120 #[.agg #[.int .u8 op, .int .u8 dst, .int .u8 src, .int .i16 off, .int .i32 imm]] w fun e w' => e = .returned (rowV (memI op)) ∧ Below w.heap.size w w' := by
  have e0 : (op == 215) = false := by simpa using n0
  have e1 : (op == 5) = false := by simpa using n1
  have e2 : (op == 133) = false := by simpa using n2
  have e3 : (op == 149) = false := by simpa using n3
  have e4 : (op == 24) = false := by simpa using n4
  clear n0 n1 n2 n3 n4
  have g1 : bits .and .u8 op 7 = 2 := by rw [u8_and7 op h0 h1, hm]
  clear hm
  go_enter Tryz.func120, Tryz.ntmps120
  go_wp2_with fail
  refine (memoryRow_any op _ h0 h1 ((hz0.alloc _).alloc _)).mono ?_
  rintro e w1 ⟨rfl, b1⟩
  obtain ⟨hc, hf⟩ := bcell b1
  have hb1 : Below w.heap.size w w1 := (((Below.refl _ _).alloc (Nat.le_refl _) _).alloc (by simp) _).trans (b1.mono (by simp; omega))
  have hz : w.heap.size + 1 < w1.heap.size := by have := b1.size; simp at this; omega
  clear b1
  unfold rowV
  go_wp2
  exact bodyPost_ret (v := rowV _) (by simp [results, Tryz.results120, go_sem, hc, hz]; rfl) rfl ⟨rfl, (((((((((hb1.setCell (by simp) _).setCell (by simp) _).setCell (by simp) _).setCell (by simp) _).setCell (by simp) _).setCell (by simp) _).setCell (by simp) _).setCell (by simp) _).setCell (by simp) _)⟩

theorem rowOf_m3 (op dst src off imm : Int) (w : World) (h0 : 0 ≤ op) (h1 : op < 256) (n0 : ¬ op = 215) (n1 : ¬ op = 5) (n2 : ¬ op = 133) (n3 : ¬ op = 149) (n4 : ¬ op = 24) (hz0 : SzOk w) (hm : op % 8 = 3) : Calls Tryz.prog 120 #[.agg #[.int .u8 op, .int .u8 dst, .int .u8 src, .int .i16 off, .int .i32 imm]] w fun e w' => e = .returned (rowV (memI op)) ∧ Below w.heap.size w w' := by
  have e0 : (op == 215) = false := by simpa using n0
  have e1 : (op == 5) = false := by simpa using n1
  have e2 : (op == 133) = false := by simpa using n2
  have e3 : (op == 149) = false := by simpa using n3
  have e4 : (op == 24) = false := by simpa using n4
  clear n0 n1 n2 n3 n4
  have g1 : bits .and .u8 op 7 = 3 := by rw [u8_and7 op h0 h1, hm]
  clear hm
  go_enter Tryz.func120, Tryz.ntmps120
  go_wp2_with fail
  refine (memoryRow_any op _ h0 h1 ((hz0.alloc _).alloc _)).mono ?_
  rintro e w1 ⟨rfl, b1⟩
  obtain ⟨hc, hf⟩ := bcell b1
  have hb1 : Below w.heap.size w w1 := (((Below.refl _ _).alloc (Nat.le_refl _) _).alloc (by simp) _).trans (b1.mono (by simp; omega))
  have hz : w.heap.size + 1 < w1.heap.size := by have := b1.size; simp at this; omega
  clear b1
  unfold rowV
  go_wp2
  exact bodyPost_ret (v := rowV _) (by simp [results, Tryz.results120, go_sem, hc, hz]; rfl) rfl ⟨rfl, (((((((((hb1.setCell (by simp) _).setCell (by simp) _).setCell (by simp) _).setCell (by simp) _).setCell (by simp) _).setCell (by simp) _).setCell (by simp) _).setCell (by simp) _).setCell (by simp) _)⟩

theorem rowOf_x4 (op dst src off imm : Int) (w : World) (h0 : 0 ≤ op) (h1 : op < 256) (n0 : ¬ op = 215) (n1 : ¬ op = 5) (n2 : ¬ op = 133) (n3 : ¬ op = 149) (n4 : ¬ op = 24) (hm : op % 8 = 4) : Calls Tryz.prog 120 #[.agg #[.int .u8 op, .int .u8 dst, .int .u8 src, .int .i16 off, .int .i32 imm]] w fun e w' => e = .returned (rowV (aluR op)) ∧ Below w.heap.size w w' := by
  have e0 : (op == 215) = false := by simpa using n0
  have e1 : (op == 5) = false := by simpa using n1
  have e2 : (op == 133) = false := by simpa using n2
  have e3 : (op == 149) = false := by simpa using n3
  have e4 : (op == 24) = false := by simpa using n4
  clear n0 n1 n2 n3 n4
  have g1 : bits .and .u8 op 7 = 4 := by rw [u8_and7 op h0 h1, hm]
  clear hm
  go_enter Tryz.func120, Tryz.ntmps120
  go_wp2_with fail
  refine (aluRow_any op _ h0 h1).mono ?_
  rintro e w1 ⟨rfl, b1⟩
  obtain ⟨hc, hf⟩ := bcell b1
  have hb1 : Below w.heap.size w w1 := (((Below.refl _ _).alloc (Nat.le_refl _) _).alloc (by simp) _).trans (b1.mono (by simp; omega))
  have hz : w.heap.size + 1 < w1.heap.size := by have := b1.size; simp at this; omega
  clear b1
  unfold rowV
  go_wp2
  exact bodyPost_ret (v := rowV _) (by simp [results, Tryz.results120, go_sem, hc, hz]; rfl) rfl ⟨rfl, (((((((((hb1.setCell (by simp) _).setCell (by simp) _).setCell (by simp) _).setCell (by simp) _).setCell (by simp) _).setCell (by simp) _).setCell (by simp) _).setCell (by simp) _).setCell (by simp) _)⟩

theorem rowOf_x7 (op dst src off imm : Int) (w : World) (h0 : 0 ≤ op) (h1 : op < 256) (n0 : ¬ op = 215) (n1 : ¬ op = 5) (n2 : ¬ op = 133) (n3 : ¬ op = 149) (n4 : ¬ op = 24) (hm : op % 8 = 7) : Calls Tryz.prog 120 #[.agg #[.int .u8 op, .int .u8 dst, .int .u8 src, .int .i16 off, .int .i32 imm]] w fun e w' => e = .returned (rowV (aluR op)) ∧ Below w.heap.size w w' := by
  have e0 : (op == 215) = false := by simpa using n0
  have e1 : (op == 5) = false := by simpa using n1
  have e2 : (op == 133) = false := by simpa using n2
  have e3 : (op == 149) = false := by simpa using n3
  have e4 : (op == 24) = false := by simpa using n4
  clear n0 n1 n2 n3 n4
  have g1 : bits .and .u8 op 7 = 7 := by rw [u8_and7 op h0 h1, hm]
  clear hm
  go_enter Tryz.func120, Tryz.ntmps120
  go_wp2_with fail
  refine (aluRow_any op _ h0 h1).mono ?_
  rintro e w1 ⟨rfl, b1⟩
  obtain ⟨hc, hf⟩ := bcell b1
  have hb1 : Below w.heap.size w w1 := (((Below.refl _ _).alloc (Nat.le_refl _) _).alloc (by simp) _).trans (b1.mono (by simp; omega))
  have hz : w.heap.size + 1 < w1.heap.size := by have := b1.size; simp at this; omega
  clear b1
  unfold rowV
  go_wp2
  exact bodyPost_ret (v := rowV _) (by simp [results, Tryz.results120, go_sem, hc, hz]; rfl) rfl ⟨rfl, (((((((((hb1.setCell (by simp) _).setCell (by simp) _).setCell (by simp) _).setCell (by simp) _).setCell (by simp) _).setCell (by simp) _).setCell (by simp) _).setCell (by simp) _).setCell (by simp) _)⟩

theorem rowOf_j5 (op dst src off imm : Int) (w : World) (h0 : 0 ≤ op) (h1 : op < 256) (n0 : ¬ op = 215) (n1 : ¬ op = 5) (n2 : ¬ op = 133) (n3 : ¬ op = 149) (n4 : ¬ op = 24) (hm : op % 8 = 5) : Calls Tryz.prog 120 #[.agg #[.int .u8 op, .int .u8 dst, .int .u8 src, .int .i16 off, .int .i32 imm]] w fun e w' => e = .returned (rowV (jmpR op)) ∧ Below w.heap.size w w' := by
  have e0 : (op == 215) = false := by simpa using n0
  have e1 : (op == 5) = false := by simpa using n1
  have e2 : (op == 133) = false := by simpa using n2
  have e3 : (op == 149) = false := by simpa using n3
  have e4 : (op == 24) = false := by simpa using n4
  clear n0 n1 n2 n3 n4
  have g1 : bits .and .u8 op 7 = 5 := by rw [u8_and7 op h0 h1, hm]
  clear hm
  go_enter Tryz.func120, Tryz.ntmps120
  go_wp2_with fail
  refine (jumpRow_any op _ h0 h1).mono ?_
  rintro e w1 ⟨rfl, b1⟩
  obtain ⟨hc, hf⟩ := bcell b1
  have hb1 : Below w.heap.size w w1 := (((Below.refl _ _).alloc (Nat.le_refl _) _).alloc (by simp) _).trans (b1.mono (by simp; omega))
  have hz : w.heap.size + 1 < w1.heap.size := by have := b1.size; simp at this; omega
  clear b1
  unfold rowV
  go_wp2
  exact bodyPost_ret (v := rowV _) (by simp [results, Tryz.results120, go_sem, hc, hz]; rfl) rfl ⟨rfl, (((((((((hb1.setCell (by simp) _).setCell (by simp) _).setCell (by simp) _).setCell (by simp) _).setCell (by simp) _).setCell (by simp) _).setCell (by simp) _).setCell (by simp) _).setCell (by simp) _)⟩

theorem rowOf_j6 (op dst src off imm : Int) (w : World) (h0 : 0 ≤ op) (h1 : op < 256) (n0 : ¬ op = 215) (n1 : ¬ op = 5) (n2 : ¬ op = 133) (n3 : ¬ op = 149) (n4 : ¬ op = 24) (hm : op % 8 = 6) : Calls Tryz.prog 120 #[.agg #[.int .u8 op, .int .u8 dst, .int .u8 src, .int .i16 off, .int .i32 imm]] w fun e w' => e = .returned (rowV (jmpR op)) ∧ Below w.heap.size w w' := by
  have e0 : (op == 215) = false := by simpa using n0
  have e1 : (op == 5) = false := by simpa using n1
  have e2 : (op == 133) = false := by simpa using n2
  have e3 : (op == 149) = false := by simpa using n3
  have e4 : (op == 24) = false := by simpa using n4
  clear n0 n1 n2 n3 n4
  have g1 : bits .and .u8 op 7 = 6 := by rw [u8_and7 op h0 h1, hm]
  clear hm
  go_enter Tryz.func120, Tryz.ntmps120
  go_wp2_with fail
  refine (jumpRow_any op _ h0 h1).mono ?_
  rintro e w1 ⟨rfl, b1⟩
  obtain ⟨hc, hf⟩ := bcell b1
  have hb1 : Below w.heap.size w w1 := (((Below.refl _ _).alloc (Nat.le_refl _) _).alloc (by simp) _).trans (b1.mono (by simp; omega))
  have hz : w.heap.size + 1 < w1.heap.size := by have := b1.size; simp at this; omega
  clear b1
  unfold rowV
  go_wp2
  exact bodyPost_ret (v := rowV _) (by simp [results, Tryz.results120, go_sem, hc, hz]; rfl) rfl ⟨rfl, (((((((((hb1.setCell (by simp) _).setCell (by simp) _).setCell (by simp) _).setCell (by simp) _).setCell (by simp) _).setCell (by simp) _).setCell (by simp) _).setCell (by simp) _).setCell (by simp) _)⟩

theorem rowOf_z (op dst src off imm : Int) (w : World) (h0 : 0 ≤ op) (h1 : op < 256) (n0 : ¬ op = 215) (n1 : ¬ op = 5) (n2 : ¬ op = 133) (n3 : ¬ op = 149) (n4 : ¬ op = 24) (hm : op % 8 = 0) : Calls Tryz.prog 120 #[.agg #[.int .u8 op, .int .u8 dst, .int .u8 src, .int .i16 off, .int .i32 imm]] w fun e w' => e = .returned (rowV (r0)) ∧ Below w.heap.size w w' := by
  have e0 : (op == 215) = false := by simpa using n0
  have e1 : (op == 5) = false := by simpa using n1
  have e2 : (op == 133) = false := by simpa using n2
  have e3 : (op == 149) = false := by simpa using n3
  have e4 : (op == 24) = false := by simpa using n4
  clear n0 n1 n2 n3 n4
  have g1 : bits .and .u8 op 7 = 0 := by rw [u8_and7 op h0 h1, hm]
  clear hm
  go_enter Tryz.func120, Tryz.ntmps120
  go_wp2
  exact bodyPost_ret (v := rowV _) (by simp [results, Tryz.results120, go_sem]; rfl) rfl ⟨rfl, ((Below.refl _ _).alloc (Nat.le_refl _) _).alloc (by simp) _⟩

theorem rowOf_any (op dst src off imm : Int) (w : World) (h0 : 0 ≤ op) (h1 : op < 256) (hz : SzOk w) : Calls Tryz.prog 120 #[.agg #[.int .u8 op, .int .u8 dst, .int .u8 src, .int .i16 off, .int .i32 imm]] w fun e w' => e = .returned (rowV (rowI op src imm)) ∧ Below w.heap.size w w' := by
  by_cases n0 : op = 215
  · subst n0; exact rowOf_a dst src off imm w
  by_cases n1 : op = 5
  · subst n1; exact rowOf_c dst src off imm w
  by_cases n2 : op = 133
  · subst n2; exact rowOf_d dst src off imm w
  by_cases n3 : op = 149
  · subst n3; exact rowOf_e dst src off imm w
  by_cases n4 : op = 24
  · subst n4; exact rowOf_b dst src off imm w
  have hr : rowI op src imm = if op % 8 = 1 ∨ op % 8 = 2 ∨ op % 8 = 3 then memI op else if op % 8 = 4 ∨ op % 8 = 7 then aluR op else if op % 8 = 6 ∨ op % 8 = 5 then jmpR op else r0 := by
    unfold rowI
    rw [if_neg n0, if_neg n1, if_neg n2, if_neg n3, if_neg n4]
  rw [hr]
  have hq : op % 8 = 0 ∨ op % 8 = 1 ∨ op % 8 = 2 ∨ op % 8 = 3 ∨ op % 8 = 4 ∨ op % 8 = 5 ∨ op % 8 = 6 ∨ op % 8 = 7 := by omega
  rcases hq with hm | hm | hm | hm | hm | hm | hm | hm
  · rw [if_neg (by omega), if_neg (by omega), if_neg (by omega)]; exact rowOf_z op dst src off imm w h0 h1 n0 n1 n2 n3 n4 hm
  · rw [if_pos (by omega)]; exact rowOf_m1 op dst src off imm w h0 h1 n0 n1 n2 n3 n4 hz hm
  · rw [if_pos (by omega)]; exact rowOf_m2 op dst src off imm w h0 h1 n0 n1 n2 n3 n4 hz hm
  · rw [if_pos (by omega)]; exact rowOf_m3 op dst src off imm w h0 h1 n0 n1 n2 n3 n4 hz hm
  · rw [if_neg (by omega), if_pos (by omega)]; exact rowOf_x4 op dst src off imm w h0 h1 n0 n1 n2 n3 n4 hm
  · rw [if_neg (by omega), if_neg (by omega), if_pos (by omega)]; exact rowOf_j5 op dst src off imm w h0 h1 n0 n1 n2 n3 n4 hm
  · rw [if_neg (by omega), if_neg (by omega), if_pos (by omega)]; exact rowOf_j6 op dst src off imm w h0 h1 n0 n1 n2 n3 n4 hm
  · rw [if_neg (by omega), if_pos (by omega)]; exact rowOf_x7 op dst src off imm w h0 h1 n0 n1 n2 n3 n4 hm
end Go.Proofs.YtjcnpjidkimldaaGreatDoor.Is

namespace Go.Proofs.YtjcnpjidkimldaaGreatDoor.Is
set_option linter.unusedSimpArgs false
set_option linter.unusedVariables false
set_option maxRecDepth 100000
open Go.ChangeShapes Go.WideShapes Go.ChangeAt Go.RowKit

def standB (u reg : Int) : Bool := if u = 2 then decide (reg ≤ 10) else if u = 3 then decide (reg ≤ 9) else true
def beB (u n : Int) : Bool := !(u == 0) || n == 0
theorem mayStand_is (u reg : Int) (b : Bool) (hb : standB u reg = b) (w : World) : Calls Tryz.prog 121 #[.int .i64 u, .int .u8 reg] w fun e w' => e = .returned (.bool b) ∧ w = w' := by
  subst hb
  unfold standB
  by_cases h2 : u = 2
  · subst h2
    go_enter Tryz.func121, Tryz.ntmps121
    go_wp2
    go_ret
    exact ⟨rfl, rfl⟩
  by_cases h3 : u = 3
  · subst h3
    go_enter Tryz.func121, Tryz.ntmps121
    go_wp2
    go_ret
    exact ⟨rfl, rfl⟩
  rw [if_neg h2, if_neg h3]
  have e2 : (u == 2) = false := by simpa using h2
  have e3 : (u == 3) = false := by simpa using h3
  clear h2 h3
  go_enter Tryz.func121, Tryz.ntmps121
  go_wp2
  go_ret
  exact ⟨rfl, rfl⟩
theorem mayBe_is (u n : Int) (b : Bool) (hb : beB u n = b) (w : World) : Calls Tryz.prog 122 #[.int .i64 u, .int .i64 n] w fun e w' => e = .returned (.bool b) ∧ w = w' := by
  subst hb
  unfold beB
  by_cases h2 : u = 0
  · subst h2
    go_enter Tryz.func122, Tryz.ntmps122
    go_wp2
    go_ret
    exact ⟨rfl, rfl⟩
  have e2 : (u == 0) = false := by simpa using h2
  have e3 : (u != 0) = true := by simpa using h2
  clear h2
  rw [e2]
  clear e2
  go_enter Tryz.func122, Tryz.ntmps122
  go_wp2
  go_ret
  exact ⟨rfl, rfl⟩

/-- What is wrong with an instruction that stands in a row. -/
def tkE (r : Rw) (dst src off imm : Int) : Int :=
  if r.cls = 0 then 20 else if !(standB r.dst dst && standB r.src src) then 21 else if !(beB r.dst dst && beB r.src src && beB r.off off && beB r.imm imm) then 22 else 0
def tkR (r : Rw) (dst src off imm : Int) : Rw := if tkE r dst src off imm = 0 then r else r0

theorem ite_cls {c : Prop} [Decidable c] {a b : Rw} (ha : a = r0 ∨ a.cls ≠ 0) (hb : b = r0 ∨ b.cls ≠ 0) : (if c then a else b) = r0 ∨ (if c then a else b).cls ≠ 0 := by
  by_cases h : c
  · simpa [h] using ha
  · simpa [h] using hb
theorem swapI_cls (b : Int) : swapI b = r0 ∨ (swapI b).cls ≠ 0 := by
  unfold swapI
  exact ite_cls (.inr (by decide)) (ite_cls (.inr (by decide)) (ite_cls (.inr (by decide)) (.inl rfl)))
theorem constI_cls (b : Int) : constI b = r0 ∨ (constI b).cls ≠ 0 := by
  unfold constI
  exact ite_cls (.inr (by decide)) (ite_cls (.inr (by decide)) (.inl rfl))
theorem n1 : (1 : Int) ≠ 0 := by decide
theorem n3 : (3 : Int) ≠ 0 := by decide
theorem n4 : (4 : Int) ≠ 0 := by decide
theorem n5 : (5 : Int) ≠ 0 := by decide
theorem n6 : (6 : Int) ≠ 0 := by decide
theorem n7 : (7 : Int) ≠ 0 := by decide
theorem n8 : (8 : Int) ≠ 0 := by decide
theorem n9 : (9 : Int) ≠ 0 := by decide
theorem memI_cls (b : Int) : memI b = r0 ∨ (memI b).cls ≠ 0 := by
  unfold memI
  exact ite_cls (.inl rfl) (ite_cls (.inr n3) (ite_cls (.inr n5) (.inr n4)))
theorem aluR_cls (b : Int) : aluR b = r0 ∨ (aluR b).cls ≠ 0 := by
  unfold aluR
  exact ite_cls (.inl rfl) (ite_cls (ite_cls (.inl rfl) (.inr n1)) (ite_cls (.inr n1) (.inr n1)))
theorem jmpR_cls (b : Int) : jmpR b = r0 ∨ (jmpR b).cls ≠ 0 := by
  unfold jmpR
  exact ite_cls (.inl rfl) (ite_cls (.inl rfl) (ite_cls (.inl rfl) (ite_cls (.inr n6) (.inr n6))))
theorem rowI_cls (op src imm : Int) : rowI op src imm = r0 ∨ (rowI op src imm).cls ≠ 0 := by
  unfold rowI
  exact ite_cls (swapI_cls _) (ite_cls (.inr n7) (ite_cls (.inr n8) (ite_cls (.inr n9) (ite_cls (constI_cls _) (ite_cls (memI_cls _) (ite_cls (aluR_cls _) (ite_cls (jmpR_cls _) (.inl rfl))))))))

theorem take_p0 (op dst src off imm : Int) (w : World) (h0 : 0 ≤ op) (h1 : op < 256) (d0 : 0 ≤ dst) (d1 : dst < 256) (s0 : 0 ≤ src) (s1 : src < 256) (o0 : -32768 ≤ off) (o1 : off < 32768) (m0 : -2147483648 ≤ imm) (m1 : imm < 2147483648) (hz : SzOk w) (hrow : Hid (rowI op src imm = r0)) :
    Calls Tryz.prog 81 #[.agg #[.int .u8 op, .int .u8 dst, .int .u8 src, .int .i16 off, .int .i32 imm]] w fun e w' => e = .returned (.tuple #[rowV r0, .int .i64 20]) ∧ Below w.heap.size w w' := by
  have hr := hid fun W (hW : SzOk W) => (by rw [← hrow.out]; exact rowOf_any op dst src off imm W h0 h1 hW : Calls Tryz.prog 120 #[.agg #[.int .u8 op, .int .u8 dst, .int .u8 src, .int .i16 off, .int .i32 imm]] W fun e w' => e = .returned (rowV r0) ∧ Below W.heap.size W w')
  have hz2 := hid ((hz.alloc (.cells #[.int .u8 op, .int .u8 dst, .int .u8 src, .int .i16 off, .int .i32 imm] 24)).alloc (.cells #[.int .i64 0, .int .i64 0, .int .i64 0, .bool false, .bool false, .int .i64 0, .int .i64 0, .int .i64 0, .int .i64 0] 172))
  clear hz hrow
  go_enter Tryz.func81, Tryz.ntmps81
  go_wp2_with fail
  refine (hr.out _ hz2.out).mono ?_
  rintro e w1 ⟨rfl, b1⟩
  obtain ⟨hc, hf⟩ := bcell b1
  have hb1 : Below w.heap.size w w1 := (((Below.refl _ _).alloc (Nat.le_refl _) _).alloc (by simp) _).trans (b1.mono (by simp; omega))
  have hz : w.heap.size + 1 < w1.heap.size := by have := b1.size; simp at this; omega
  have hz' : w.heap.size < w1.heap.size := by omega
  clear b1 hr hz2
  simp only [rowV, r0]
  go_wp2
  exact bodyPost_ret (v := .tuple #[rowV r0, .int .i64 20]) (by simp [results, Tryz.results81, go_sem, hc, hz]; rfl) rfl ⟨rfl, ((((((((((hb1.setCell (by simp) _).setCell (by simp) _).setCell (by simp) _).setCell (by simp) _).setCell (by simp) _).setCell (by simp) _).setCell (by simp) _).setCell (by simp) _).setCell (by simp) _).alloc (by simp; omega) _)⟩

theorem take_p1 (r : Rw) (op dst src off imm : Int) (w : World) (h0 : 0 ≤ op) (h1 : op < 256) (d0 : 0 ≤ dst) (d1 : dst < 256) (s0 : 0 ≤ src) (s1 : src < 256) (o0 : -32768 ≤ off) (o1 : off < 32768) (m0 : -2147483648 ≤ imm) (m1 : imm < 2147483648) (hz : SzOk w) (hrow : Hid (rowI op src imm = r)) (hn : r.cls ≠ 0) (a1 : Hid (standB r.dst dst = false)) :
    Calls Tryz.prog 81 #[.agg #[.int .u8 op, .int .u8 dst, .int .u8 src, .int .i16 off, .int .i32 imm]] w fun e w' => e = .returned (.tuple #[rowV r0, .int .i64 21]) ∧ Below w.heap.size w w' := by
  have hr := hid fun W (hW : SzOk W) => (hrow.out ▸ rowOf_any op dst src off imm W h0 h1 hW : Calls Tryz.prog 120 #[.agg #[.int .u8 op, .int .u8 dst, .int .u8 src, .int .i16 off, .int .i32 imm]] W fun e w' => e = .returned (rowV r) ∧ Below W.heap.size W w')
  have hz2 := hid ((hz.alloc (.cells #[.int .u8 op, .int .u8 dst, .int .u8 src, .int .i16 off, .int .i32 imm] 24)).alloc (.cells #[.int .i64 0, .int .i64 0, .int .i64 0, .bool false, .bool false, .int .i64 0, .int .i64 0, .int .i64 0, .int .i64 0] 172))
  clear hz hrow
  have hn : (r.cls == 0) = false := by simpa using hn
  go_enter Tryz.func81, Tryz.ntmps81
  go_wp2_with fail
  refine (hr.out _ hz2.out).mono ?_
  rintro e w1 ⟨rfl, b1⟩
  obtain ⟨hc, hf⟩ := bcell b1
  have hb1 : Below w.heap.size w w1 := (((Below.refl _ _).alloc (Nat.le_refl _) _).alloc (by simp) _).trans (b1.mono (by simp; omega))
  have hz : w.heap.size + 1 < w1.heap.size := by have := b1.size; simp at this; omega
  have hz' : w.heap.size < w1.heap.size := by omega
  clear b1 hr hz2
  unfold rowV
  go_wp2_with fail
  refine (mayStand_is _ _ _ a1.out _).mono ?_
  rintro e w' ⟨rfl, rfl⟩
  go_wp2
  exact bodyPost_ret (v := .tuple #[rowV r0, .int .i64 21]) (by simp [results, Tryz.results81, go_sem, hc, hz]; rfl) rfl ⟨rfl, ((((((((((hb1.setCell (by simp) _).setCell (by simp) _).setCell (by simp) _).setCell (by simp) _).setCell (by simp) _).setCell (by simp) _).setCell (by simp) _).setCell (by simp) _).setCell (by simp) _).alloc (by simp; omega) _)⟩

theorem take_p2 (r : Rw) (op dst src off imm : Int) (w : World) (h0 : 0 ≤ op) (h1 : op < 256) (d0 : 0 ≤ dst) (d1 : dst < 256) (s0 : 0 ≤ src) (s1 : src < 256) (o0 : -32768 ≤ off) (o1 : off < 32768) (m0 : -2147483648 ≤ imm) (m1 : imm < 2147483648) (hz : SzOk w) (hrow : Hid (rowI op src imm = r)) (hn : r.cls ≠ 0) (a1 : Hid (standB r.dst dst = true)) (a2 : Hid (standB r.src src = false)) :
    Calls Tryz.prog 81 #[.agg #[.int .u8 op, .int .u8 dst, .int .u8 src, .int .i16 off, .int .i32 imm]] w fun e w' => e = .returned (.tuple #[rowV r0, .int .i64 21]) ∧ Below w.heap.size w w' := by
  have hr := hid fun W (hW : SzOk W) => (hrow.out ▸ rowOf_any op dst src off imm W h0 h1 hW : Calls Tryz.prog 120 #[.agg #[.int .u8 op, .int .u8 dst, .int .u8 src, .int .i16 off, .int .i32 imm]] W fun e w' => e = .returned (rowV r) ∧ Below W.heap.size W w')
  have hz2 := hid ((hz.alloc (.cells #[.int .u8 op, .int .u8 dst, .int .u8 src, .int .i16 off, .int .i32 imm] 24)).alloc (.cells #[.int .i64 0, .int .i64 0, .int .i64 0, .bool false, .bool false, .int .i64 0, .int .i64 0, .int .i64 0, .int .i64 0] 172))
  clear hz hrow
  have hn : (r.cls == 0) = false := by simpa using hn
  go_enter Tryz.func81, Tryz.ntmps81
  go_wp2_with fail
  refine (hr.out _ hz2.out).mono ?_
  rintro e w1 ⟨rfl, b1⟩
  obtain ⟨hc, hf⟩ := bcell b1
  have hb1 : Below w.heap.size w w1 := (((Below.refl _ _).alloc (Nat.le_refl _) _).alloc (by simp) _).trans (b1.mono (by simp; omega))
  have hz : w.heap.size + 1 < w1.heap.size := by have := b1.size; simp at this; omega
  have hz' : w.heap.size < w1.heap.size := by omega
  clear b1 hr hz2
  unfold rowV
  go_wp2_with fail
  refine (mayStand_is _ _ _ a1.out _).mono ?_
  rintro e w' ⟨rfl, rfl⟩
  go_wp2_with fail
  refine (mayStand_is _ _ _ a2.out _).mono ?_
  rintro e w' ⟨rfl, rfl⟩
  go_wp2
  exact bodyPost_ret (v := .tuple #[rowV r0, .int .i64 21]) (by simp [results, Tryz.results81, go_sem, hc, hz]; rfl) rfl ⟨rfl, ((((((((((hb1.setCell (by simp) _).setCell (by simp) _).setCell (by simp) _).setCell (by simp) _).setCell (by simp) _).setCell (by simp) _).setCell (by simp) _).setCell (by simp) _).setCell (by simp) _).alloc (by simp; omega) _)⟩

theorem take_p3 (r : Rw) (op dst src off imm : Int) (w : World) (h0 : 0 ≤ op) (h1 : op < 256) (d0 : 0 ≤ dst) (d1 : dst < 256) (s0 : 0 ≤ src) (s1 : src < 256) (o0 : -32768 ≤ off) (o1 : off < 32768) (m0 : -2147483648 ≤ imm) (m1 : imm < 2147483648) (hz : SzOk w) (hrow : Hid (rowI op src imm = r)) (hn : r.cls ≠ 0) (a1 : Hid (standB r.dst dst = true)) (a2 : Hid (standB r.src src = true)) (b1 : Hid (beB r.dst dst = false)) :
    Calls Tryz.prog 81 #[.agg #[.int .u8 op, .int .u8 dst, .int .u8 src, .int .i16 off, .int .i32 imm]] w fun e w' => e = .returned (.tuple #[rowV r0, .int .i64 22]) ∧ Below w.heap.size w w' := by
  have hr := hid fun W (hW : SzOk W) => (hrow.out ▸ rowOf_any op dst src off imm W h0 h1 hW : Calls Tryz.prog 120 #[.agg #[.int .u8 op, .int .u8 dst, .int .u8 src, .int .i16 off, .int .i32 imm]] W fun e w' => e = .returned (rowV r) ∧ Below W.heap.size W w')
  have hz2 := hid ((hz.alloc (.cells #[.int .u8 op, .int .u8 dst, .int .u8 src, .int .i16 off, .int .i32 imm] 24)).alloc (.cells #[.int .i64 0, .int .i64 0, .int .i64 0, .bool false, .bool false, .int .i64 0, .int .i64 0, .int .i64 0, .int .i64 0] 172))
  clear hz hrow
  have hn : (r.cls == 0) = false := by simpa using hn
  go_enter Tryz.func81, Tryz.ntmps81
  go_wp2_with fail
  refine (hr.out _ hz2.out).mono ?_
  rintro e w1 ⟨rfl, b1⟩
  obtain ⟨hc, hf⟩ := bcell b1
  have hb1 : Below w.heap.size w w1 := (((Below.refl _ _).alloc (Nat.le_refl _) _).alloc (by simp) _).trans (b1.mono (by simp; omega))
  have hz : w.heap.size + 1 < w1.heap.size := by have := b1.size; simp at this; omega
  have hz' : w.heap.size < w1.heap.size := by omega
  clear b1 hr hz2
  unfold rowV
  go_wp2_with fail
  refine (mayStand_is _ _ _ a1.out _).mono ?_
  rintro e w' ⟨rfl, rfl⟩
  go_wp2_with fail
  refine (mayStand_is _ _ _ a2.out _).mono ?_
  rintro e w' ⟨rfl, rfl⟩
  go_wp2_with fail
  refine (mayBe_is _ _ _ b1.out _).mono ?_
  rintro e w' ⟨rfl, rfl⟩
  go_wp2
  exact bodyPost_ret (v := .tuple #[rowV r0, .int .i64 22]) (by simp [results, Tryz.results81, go_sem, hc, hz]; rfl) rfl ⟨rfl, ((((((((((hb1.setCell (by simp) _).setCell (by simp) _).setCell (by simp) _).setCell (by simp) _).setCell (by simp) _).setCell (by simp) _).setCell (by simp) _).setCell (by simp) _).setCell (by simp) _).alloc (by simp; omega) _)⟩

theorem take_p4 (r : Rw) (op dst src off imm : Int) (w : World) (h0 : 0 ≤ op) (h1 : op < 256) (d0 : 0 ≤ dst) (d1 : dst < 256) (s0 : 0 ≤ src) (s1 : src < 256) (o0 : -32768 ≤ off) (o1 : off < 32768) (m0 : -2147483648 ≤ imm) (m1 : imm < 2147483648) (hz : SzOk w) (hrow : Hid (rowI op src imm = r)) (hn : r.cls ≠ 0) (a1 : Hid (standB r.dst dst = true)) (a2 : Hid (standB r.src src = true)) (b1 : Hid (beB r.dst dst = true)) (b2 : Hid (beB r.src src = false)) :
    Calls Tryz.prog 81 #[.agg #[.int .u8 op, .int .u8 dst, .int .u8 src, .int .i16 off, .int .i32 imm]] w fun e w' => e = .returned (.tuple #[rowV r0, .int .i64 22]) ∧ Below w.heap.size w w' := by
  have hr := hid fun W (hW : SzOk W) => (hrow.out ▸ rowOf_any op dst src off imm W h0 h1 hW : Calls Tryz.prog 120 #[.agg #[.int .u8 op, .int .u8 dst, .int .u8 src, .int .i16 off, .int .i32 imm]] W fun e w' => e = .returned (rowV r) ∧ Below W.heap.size W w')
  have hz2 := hid ((hz.alloc (.cells #[.int .u8 op, .int .u8 dst, .int .u8 src, .int .i16 off, .int .i32 imm] 24)).alloc (.cells #[.int .i64 0, .int .i64 0, .int .i64 0, .bool false, .bool false, .int .i64 0, .int .i64 0, .int .i64 0, .int .i64 0] 172))
  clear hz hrow
  have hn : (r.cls == 0) = false := by simpa using hn
  go_enter Tryz.func81, Tryz.ntmps81
  go_wp2_with fail
  refine (hr.out _ hz2.out).mono ?_
  rintro e w1 ⟨rfl, b1⟩
  obtain ⟨hc, hf⟩ := bcell b1
  have hb1 : Below w.heap.size w w1 := (((Below.refl _ _).alloc (Nat.le_refl _) _).alloc (by simp) _).trans (b1.mono (by simp; omega))
  have hz : w.heap.size + 1 < w1.heap.size := by have := b1.size; simp at this; omega
  have hz' : w.heap.size < w1.heap.size := by omega
  clear b1 hr hz2
  unfold rowV
  go_wp2_with fail
  refine (mayStand_is _ _ _ a1.out _).mono ?_
  rintro e w' ⟨rfl, rfl⟩
  go_wp2_with fail
  refine (mayStand_is _ _ _ a2.out _).mono ?_
  rintro e w' ⟨rfl, rfl⟩
  go_wp2_with fail
  refine (mayBe_is _ _ _ b1.out _).mono ?_
  rintro e w' ⟨rfl, rfl⟩
  go_wp2_with fail
  refine (mayBe_is _ _ _ b2.out _).mono ?_
  rintro e w' ⟨rfl, rfl⟩
  go_wp2
  exact bodyPost_ret (v := .tuple #[rowV r0, .int .i64 22]) (by simp [results, Tryz.results81, go_sem, hc, hz]; rfl) rfl ⟨rfl, ((((((((((hb1.setCell (by simp) _).setCell (by simp) _).setCell (by simp) _).setCell (by simp) _).setCell (by simp) _).setCell (by simp) _).setCell (by simp) _).setCell (by simp) _).setCell (by simp) _).alloc (by simp; omega) _)⟩

theorem take_p5 (r : Rw) (op dst src off imm : Int) (w : World) (h0 : 0 ≤ op) (h1 : op < 256) (d0 : 0 ≤ dst) (d1 : dst < 256) (s0 : 0 ≤ src) (s1 : src < 256) (o0 : -32768 ≤ off) (o1 : off < 32768) (m0 : -2147483648 ≤ imm) (m1 : imm < 2147483648) (hz : SzOk w) (hrow : Hid (rowI op src imm = r)) (hn : r.cls ≠ 0) (a1 : Hid (standB r.dst dst = true)) (a2 : Hid (standB r.src src = true)) (b1 : Hid (beB r.dst dst = true)) (b2 : Hid (beB r.src src = true)) (b3 : Hid (beB r.off off = false)) :
    Calls Tryz.prog 81 #[.agg #[.int .u8 op, .int .u8 dst, .int .u8 src, .int .i16 off, .int .i32 imm]] w fun e w' => e = .returned (.tuple #[rowV r0, .int .i64 22]) ∧ Below w.heap.size w w' := by
  have hr := hid fun W (hW : SzOk W) => (hrow.out ▸ rowOf_any op dst src off imm W h0 h1 hW : Calls Tryz.prog 120 #[.agg #[.int .u8 op, .int .u8 dst, .int .u8 src, .int .i16 off, .int .i32 imm]] W fun e w' => e = .returned (rowV r) ∧ Below W.heap.size W w')
  have hz2 := hid ((hz.alloc (.cells #[.int .u8 op, .int .u8 dst, .int .u8 src, .int .i16 off, .int .i32 imm] 24)).alloc (.cells #[.int .i64 0, .int .i64 0, .int .i64 0, .bool false, .bool false, .int .i64 0, .int .i64 0, .int .i64 0, .int .i64 0] 172))
  clear hz hrow
  have hn : (r.cls == 0) = false := by simpa using hn
  go_enter Tryz.func81, Tryz.ntmps81
  go_wp2_with fail
  refine (hr.out _ hz2.out).mono ?_
  rintro e w1 ⟨rfl, b1⟩
  obtain ⟨hc, hf⟩ := bcell b1
  have hb1 : Below w.heap.size w w1 := (((Below.refl _ _).alloc (Nat.le_refl _) _).alloc (by simp) _).trans (b1.mono (by simp; omega))
  have hz : w.heap.size + 1 < w1.heap.size := by have := b1.size; simp at this; omega
  have hz' : w.heap.size < w1.heap.size := by omega
  clear b1 hr hz2
  unfold rowV
  go_wp2_with fail
  refine (mayStand_is _ _ _ a1.out _).mono ?_
  rintro e w' ⟨rfl, rfl⟩
  go_wp2_with fail
  refine (mayStand_is _ _ _ a2.out _).mono ?_
  rintro e w' ⟨rfl, rfl⟩
  go_wp2_with fail
  refine (mayBe_is _ _ _ b1.out _).mono ?_
  rintro e w' ⟨rfl, rfl⟩
  go_wp2_with fail
  refine (mayBe_is _ _ _ b2.out _).mono ?_
  rintro e w' ⟨rfl, rfl⟩
  go_wp2_with fail
  refine (mayBe_is _ _ _ b3.out _).mono ?_
  rintro e w' ⟨rfl, rfl⟩
  go_wp2
  exact bodyPost_ret (v := .tuple #[rowV r0, .int .i64 22]) (by simp [results, Tryz.results81, go_sem, hc, hz]; rfl) rfl ⟨rfl, ((((((((((hb1.setCell (by simp) _).setCell (by simp) _).setCell (by simp) _).setCell (by simp) _).setCell (by simp) _).setCell (by simp) _).setCell (by simp) _).setCell (by simp) _).setCell (by simp) _).alloc (by simp; omega) _)⟩

theorem take_p6 (r : Rw) (op dst src off imm : Int) (w : World) (h0 : 0 ≤ op) (h1 : op < 256) (d0 : 0 ≤ dst) (d1 : dst < 256) (s0 : 0 ≤ src) (s1 : src < 256) (o0 : -32768 ≤ off) (o1 : off < 32768) (m0 : -2147483648 ≤ imm) (m1 : imm < 2147483648) (hz : SzOk w) (hrow : Hid (rowI op src imm = r)) (hn : r.cls ≠ 0) (a1 : Hid (standB r.dst dst = true)) (a2 : Hid (standB r.src src = true)) (b1 : Hid (beB r.dst dst = true)) (b2 : Hid (beB r.src src = true)) (b3 : Hid (beB r.off off = true)) (b4 : Hid (beB r.imm imm = false)) :
    Calls Tryz.prog 81 #[.agg #[.int .u8 op, .int .u8 dst, .int .u8 src, .int .i16 off, .int .i32 imm]] w fun e w' => e = .returned (.tuple #[rowV r0, .int .i64 22]) ∧ Below w.heap.size w w' := by
  have hr := hid fun W (hW : SzOk W) => (hrow.out ▸ rowOf_any op dst src off imm W h0 h1 hW : Calls Tryz.prog 120 #[.agg #[.int .u8 op, .int .u8 dst, .int .u8 src, .int .i16 off, .int .i32 imm]] W fun e w' => e = .returned (rowV r) ∧ Below W.heap.size W w')
  have hz2 := hid ((hz.alloc (.cells #[.int .u8 op, .int .u8 dst, .int .u8 src, .int .i16 off, .int .i32 imm] 24)).alloc (.cells #[.int .i64 0, .int .i64 0, .int .i64 0, .bool false, .bool false, .int .i64 0, .int .i64 0, .int .i64 0, .int .i64 0] 172))
  clear hz hrow
  have hn : (r.cls == 0) = false := by simpa using hn
  go_enter Tryz.func81, Tryz.ntmps81
  go_wp2_with fail
  refine (hr.out _ hz2.out).mono ?_
  rintro e w1 ⟨rfl, b1⟩
  obtain ⟨hc, hf⟩ := bcell b1
  have hb1 : Below w.heap.size w w1 := (((Below.refl _ _).alloc (Nat.le_refl _) _).alloc (by simp) _).trans (b1.mono (by simp; omega))
  have hz : w.heap.size + 1 < w1.heap.size := by have := b1.size; simp at this; omega
  have hz' : w.heap.size < w1.heap.size := by omega
  clear b1 hr hz2
  unfold rowV
  go_wp2_with fail
  refine (mayStand_is _ _ _ a1.out _).mono ?_
  rintro e w' ⟨rfl, rfl⟩
  go_wp2_with fail
  refine (mayStand_is _ _ _ a2.out _).mono ?_
  rintro e w' ⟨rfl, rfl⟩
  go_wp2_with fail
  refine (mayBe_is _ _ _ b1.out _).mono ?_
  rintro e w' ⟨rfl, rfl⟩
  go_wp2_with fail
  refine (mayBe_is _ _ _ b2.out _).mono ?_
  rintro e w' ⟨rfl, rfl⟩
  go_wp2_with fail
  refine (mayBe_is _ _ _ b3.out _).mono ?_
  rintro e w' ⟨rfl, rfl⟩
  go_wp2_with fail
  refine (mayBe_is _ _ _ b4.out _).mono ?_
  rintro e w' ⟨rfl, rfl⟩
  go_wp2
  exact bodyPost_ret (v := .tuple #[rowV r0, .int .i64 22]) (by simp [results, Tryz.results81, go_sem, hc, hz]; rfl) rfl ⟨rfl, ((((((((((hb1.setCell (by simp) _).setCell (by simp) _).setCell (by simp) _).setCell (by simp) _).setCell (by simp) _).setCell (by simp) _).setCell (by simp) _).setCell (by simp) _).setCell (by simp) _).alloc (by simp; omega) _)⟩

theorem take_p7 (r : Rw) (op dst src off imm : Int) (w : World) (h0 : 0 ≤ op) (h1 : op < 256) (d0 : 0 ≤ dst) (d1 : dst < 256) (s0 : 0 ≤ src) (s1 : src < 256) (o0 : -32768 ≤ off) (o1 : off < 32768) (m0 : -2147483648 ≤ imm) (m1 : imm < 2147483648) (hz : SzOk w) (hrow : Hid (rowI op src imm = r)) (hn : r.cls ≠ 0) (a1 : Hid (standB r.dst dst = true)) (a2 : Hid (standB r.src src = true)) (b1 : Hid (beB r.dst dst = true)) (b2 : Hid (beB r.src src = true)) (b3 : Hid (beB r.off off = true)) (b4 : Hid (beB r.imm imm = true)) :
    Calls Tryz.prog 81 #[.agg #[.int .u8 op, .int .u8 dst, .int .u8 src, .int .i16 off, .int .i32 imm]] w fun e w' => e = .returned (.tuple #[rowV r, .int .i64 0]) ∧ Below w.heap.size w w' := by
  have hr := hid fun W (hW : SzOk W) => (hrow.out ▸ rowOf_any op dst src off imm W h0 h1 hW : Calls Tryz.prog 120 #[.agg #[.int .u8 op, .int .u8 dst, .int .u8 src, .int .i16 off, .int .i32 imm]] W fun e w' => e = .returned (rowV r) ∧ Below W.heap.size W w')
  have hz2 := hid ((hz.alloc (.cells #[.int .u8 op, .int .u8 dst, .int .u8 src, .int .i16 off, .int .i32 imm] 24)).alloc (.cells #[.int .i64 0, .int .i64 0, .int .i64 0, .bool false, .bool false, .int .i64 0, .int .i64 0, .int .i64 0, .int .i64 0] 172))
  clear hz hrow
  have hn : (r.cls == 0) = false := by simpa using hn
  go_enter Tryz.func81, Tryz.ntmps81
  go_wp2_with fail
  refine (hr.out _ hz2.out).mono ?_
  rintro e w1 ⟨rfl, b1⟩
  obtain ⟨hc, hf⟩ := bcell b1
  have hb1 : Below w.heap.size w w1 := (((Below.refl _ _).alloc (Nat.le_refl _) _).alloc (by simp) _).trans (b1.mono (by simp; omega))
  have hz : w.heap.size + 1 < w1.heap.size := by have := b1.size; simp at this; omega
  have hz' : w.heap.size < w1.heap.size := by omega
  clear b1 hr hz2
  unfold rowV
  go_wp2_with fail
  refine (mayStand_is _ _ _ a1.out _).mono ?_
  rintro e w' ⟨rfl, rfl⟩
  go_wp2_with fail
  refine (mayStand_is _ _ _ a2.out _).mono ?_
  rintro e w' ⟨rfl, rfl⟩
  go_wp2_with fail
  refine (mayBe_is _ _ _ b1.out _).mono ?_
  rintro e w' ⟨rfl, rfl⟩
  go_wp2_with fail
  refine (mayBe_is _ _ _ b2.out _).mono ?_
  rintro e w' ⟨rfl, rfl⟩
  go_wp2_with fail
  refine (mayBe_is _ _ _ b3.out _).mono ?_
  rintro e w' ⟨rfl, rfl⟩
  go_wp2_with fail
  refine (mayBe_is _ _ _ b4.out _).mono ?_
  rintro e w' ⟨rfl, rfl⟩
  go_wp2
  exact bodyPost_ret (v := .tuple #[rowV r, .int .i64 0]) (by simp [results, Tryz.results81, go_sem, hc, hz]; rfl) rfl ⟨rfl, ((((((((((hb1.setCell (by simp) _).setCell (by simp) _).setCell (by simp) _).setCell (by simp) _).setCell (by simp) _).setCell (by simp) _).setCell (by simp) _).setCell (by simp) _).setCell (by simp) _).alloc (by simp; omega) _)⟩

theorem take_any (op dst src off imm : Int) (w : World) (h0 : 0 ≤ op) (h1 : op < 256) (d0 : 0 ≤ dst) (d1 : dst < 256) (s0 : 0 ≤ src) (s1 : src < 256) (o0 : -32768 ≤ off) (o1 : off < 32768) (m0 : -2147483648 ≤ imm) (m1 : imm < 2147483648) (hz : SzOk w) :
    Calls Tryz.prog 81 #[.agg #[.int .u8 op, .int .u8 dst, .int .u8 src, .int .i16 off, .int .i32 imm]] w fun e w' => e = .returned (.tuple #[rowV (tkR (rowI op src imm) dst src off imm), .int .i64 (tkE (rowI op src imm) dst src off imm)]) ∧ Below w.heap.size w w' := by
  have hk := rowI_cls op src imm
  generalize hr : rowI op src imm = r at hk ⊢
  have hr' := hid hr
  rcases hk with rfl | hn
  · exact take_p0 op dst src off imm w h0 h1 d0 d1 s0 s1 o0 o1 m0 m1 hz hr'
  unfold tkR tkE
  rw [if_neg hn]
  cases a1 : standB r.dst dst
  · exact take_p1 r op dst src off imm w h0 h1 d0 d1 s0 s1 o0 o1 m0 m1 hz hr' hn (hid a1)
  cases a2 : standB r.src src
  · exact take_p2 r op dst src off imm w h0 h1 d0 d1 s0 s1 o0 o1 m0 m1 hz hr' hn (hid a1) (hid a2)
  cases b1 : beB r.dst dst
  · exact take_p3 r op dst src off imm w h0 h1 d0 d1 s0 s1 o0 o1 m0 m1 hz hr' hn (hid a1) (hid a2) (hid b1)
  cases b2 : beB r.src src
  · exact take_p4 r op dst src off imm w h0 h1 d0 d1 s0 s1 o0 o1 m0 m1 hz hr' hn (hid a1) (hid a2) (hid b1) (hid b2)
  cases b3 : beB r.off off
  · exact take_p5 r op dst src off imm w h0 h1 d0 d1 s0 s1 o0 o1 m0 m1 hz hr' hn (hid a1) (hid a2) (hid b1) (hid b2) (hid b3)
  cases b4 : beB r.imm imm
  · exact take_p6 r op dst src off imm w h0 h1 d0 d1 s0 s1 o0 o1 m0 m1 hz hr' hn (hid a1) (hid a2) (hid b1) (hid b2) (hid b3) (hid b4)
  · exact take_p7 r op dst src off imm w h0 h1 d0 d1 s0 s1 o0 o1 m0 m1 hz hr' hn (hid a1) (hid a2) (hid b1) (hid b2) (hid b3) (hid b4)

theorem of_any (op dst src off imm : Int) (w : World) (h0 : 0 ≤ op) (h1 : op < 256) (d0 : 0 ≤ dst) (d1 : dst < 256) (s0 : 0 ≤ src) (s1 : src < 256) (o0 : -32768 ≤ off) (o1 : off < 32768) (m0 : -2147483648 ≤ imm) (m1 : imm < 2147483648) (hz : SzOk w) :
    Calls Tryz.prog 38 #[.agg #[.int .u8 op, .int .u8 dst, .int .u8 src, .int .i16 off, .int .i32 imm]] w fun e w' => e = .returned (.tuple #[whV (tkR (rowI op src imm) dst src off imm), .int .i64 (tkE (rowI op src imm) dst src off imm)]) ∧ Below w.heap.size w w' := by
  have ht := hid fun W hW => take_any op dst src off imm W h0 h1 d0 d1 s0 s1 o0 o1 m0 m1 hW
  have hz2 := hid ((hz.alloc (.cells #[.int .u8 op, .int .u8 dst, .int .u8 src, .int .i16 off, .int .i32 imm] 24)).alloc (.cells #[.int .i64 0, .int .i64 0, .int .i64 0, .bool false, .bool false] 103))
  clear hz
  generalize tkR (rowI op src imm) dst src off imm = r at ht ⊢
  generalize tkE (rowI op src imm) dst src off imm = k at ht ⊢
  go_enter Tryz.func38, Tryz.ntmps38
  go_wp2_with fail
  refine (ht.out _ hz2.out).mono ?_
  rintro e w1 ⟨rfl, b1⟩
  obtain ⟨hc, hf⟩ := bcell b1
  have hb1 : Below w.heap.size w w1 := (((Below.refl _ _).alloc (Nat.le_refl _) _).alloc (by simp) _).trans (b1.mono (by simp; omega))
  have hz : w.heap.size + 1 < w1.heap.size := by have := b1.size; simp at this; omega
  have hz' : w.heap.size < w1.heap.size := by omega
  clear b1 ht hz2
  unfold rowV
  go_wp2
  exact bodyPost_ret (v := .tuple #[whV r, .int .i64 k]) (by simp [results, Tryz.results38, go_sem, hc, hz]; rfl) rfl ⟨rfl, ((((((hb1.setCell (by simp) _).setCell (by simp) _).setCell (by simp) _).setCell (by simp) _).setCell (by simp) _).alloc (by simp; omega) _)⟩
end Go.Proofs.YtjcnpjidkimldaaGreatDoor.Is

namespace Go.Proofs.YtjcnpjidkimldaaGreatDoor.Is
set_option linter.unusedSimpArgs false
set_option linter.unusedVariables false
set_option maxRecDepth 100000
open Go.ChangeShapes Go.WideShapes Go.ChangeAt Go.RowKit

theorem places_e (T : Rw) (E : Int) (op dst src off imm : Int) (w : World) (d0 : 0 ≤ dst) (d1 : dst < 256) (hz : SzOk w)
    (HT : Hid (∀ W, SzOk W → Calls Tryz.prog 38 #[.agg #[.int .u8 op, .int .u8 dst, .int .u8 src, .int .i16 off, .int .i32 imm]] W fun e w' => e = .returned (.tuple #[whV T, .int .i64 E]) ∧ Below W.heap.size W w')) (hE : (E != 0) = true) :
    Calls Tryz.prog 101 #[.agg #[.int .u8 op, .int .u8 dst, .int .u8 src, .int .i16 off, .int .i32 imm]] w fun e w' => e = .returned (.int .i64 (0)) ∧ Below w.heap.size w w' := by
  have HZ := hid hz
  clear hz
  go_enter Tryz.func101, Tryz.ntmps101
  go_wp2_with fail
  refine (HT.out _ (HZ.out.alloc _)).mono ?_
  rintro e w1 ⟨rfl, b1⟩
  have hb1 := hid (((Below.refl w.heap.size w).alloc (Nat.le_refl _) (.cells #[.int .u8 op, .int .u8 dst, .int .u8 src, .int .i16 off, .int .i32 imm] 24)).trans (b1.mono (by simp)))
  have q0 : w.heap.size < w1.heap.size := by have := b1.size; simp at this; omega
  obtain ⟨hc, hf⟩ := bcell b1
  clear b1
  simp only [rowV, whV]
  go_wp2
  go_ret
  exact ⟨rfl, hb1.out.alloc hb1.out.size _⟩


theorem places_a (T : Rw) (E : Int) (op dst src off imm : Int) (w : World) (d0 : 0 ≤ dst) (d1 : dst < 256) (hz : SzOk w)
    (HT : Hid (∀ W, SzOk W → Calls Tryz.prog 38 #[.agg #[.int .u8 op, .int .u8 dst, .int .u8 src, .int .i16 off, .int .i32 imm]] W fun e w' => e = .returned (.tuple #[whV T, .int .i64 E]) ∧ Below W.heap.size W w')) (hE : (E != 0) = false) (h1 : (T.cls == 10) = true) :
    Calls Tryz.prog 101 #[.agg #[.int .u8 op, .int .u8 dst, .int .u8 src, .int .i16 off, .int .i32 imm]] w fun e w' => e = .returned (.int .i64 (2)) ∧ Below w.heap.size w w' := by
  have HZ := hid hz
  clear hz
  go_enter Tryz.func101, Tryz.ntmps101
  go_wp2_with fail
  refine (HT.out _ (HZ.out.alloc _)).mono ?_
  rintro e w1 ⟨rfl, b1⟩
  have hb1 := hid (((Below.refl w.heap.size w).alloc (Nat.le_refl _) (.cells #[.int .u8 op, .int .u8 dst, .int .u8 src, .int .i16 off, .int .i32 imm] 24)).trans (b1.mono (by simp)))
  have q0 : w.heap.size < w1.heap.size := by have := b1.size; simp at this; omega
  obtain ⟨hc, hf⟩ := bcell b1
  clear b1
  simp only [rowV, whV]
  go_wp2
  go_ret
  exact ⟨rfl, hb1.out.alloc hb1.out.size _⟩


theorem places_b (T : Rw) (E : Int) (op dst src off imm : Int) (w : World) (d0 : 0 ≤ dst) (d1 : dst < 256) (hz : SzOk w)
    (HT : Hid (∀ W, SzOk W → Calls Tryz.prog 38 #[.agg #[.int .u8 op, .int .u8 dst, .int .u8 src, .int .i16 off, .int .i32 imm]] W fun e w' => e = .returned (.tuple #[whV T, .int .i64 E]) ∧ Below W.heap.size W w')) (hE : (E != 0) = false) (h1 : (T.cls == 10) = false) (h2 : (T.cls == 11) = true) :
    Calls Tryz.prog 101 #[.agg #[.int .u8 op, .int .u8 dst, .int .u8 src, .int .i16 off, .int .i32 imm]] w fun e w' => e = .returned (.int .i64 (2)) ∧ Below w.heap.size w w' := by
  have HZ := hid hz
  clear hz
  go_enter Tryz.func101, Tryz.ntmps101
  go_wp2_with fail
  refine (HT.out _ (HZ.out.alloc _)).mono ?_
  rintro e w1 ⟨rfl, b1⟩
  have hb1 := hid (((Below.refl w.heap.size w).alloc (Nat.le_refl _) (.cells #[.int .u8 op, .int .u8 dst, .int .u8 src, .int .i16 off, .int .i32 imm] 24)).trans (b1.mono (by simp)))
  have q0 : w.heap.size < w1.heap.size := by have := b1.size; simp at this; omega
  obtain ⟨hc, hf⟩ := bcell b1
  clear b1
  simp only [rowV, whV]
  go_wp2
  go_ret
  exact ⟨rfl, hb1.out.alloc hb1.out.size _⟩


theorem places_n (T : Rw) (E : Int) (op dst src off imm : Int) (w : World) (d0 : 0 ≤ dst) (d1 : dst < 256) (hz : SzOk w)
    (HT : Hid (∀ W, SzOk W → Calls Tryz.prog 38 #[.agg #[.int .u8 op, .int .u8 dst, .int .u8 src, .int .i16 off, .int .i32 imm]] W fun e w' => e = .returned (.tuple #[whV T, .int .i64 E]) ∧ Below W.heap.size W w')) (hE : (E != 0) = false) (h1 : (T.cls == 10) = false) (h2 : (T.cls == 11) = false) :
    Calls Tryz.prog 101 #[.agg #[.int .u8 op, .int .u8 dst, .int .u8 src, .int .i16 off, .int .i32 imm]] w fun e w' => e = .returned (.int .i64 (1)) ∧ Below w.heap.size w w' := by
  have HZ := hid hz
  clear hz
  go_enter Tryz.func101, Tryz.ntmps101
  go_wp2_with fail
  refine (HT.out _ (HZ.out.alloc _)).mono ?_
  rintro e w1 ⟨rfl, b1⟩
  have hb1 := hid (((Below.refl w.heap.size w).alloc (Nat.le_refl _) (.cells #[.int .u8 op, .int .u8 dst, .int .u8 src, .int .i16 off, .int .i32 imm] 24)).trans (b1.mono (by simp)))
  have q0 : w.heap.size < w1.heap.size := by have := b1.size; simp at this; omega
  obtain ⟨hc, hf⟩ := bcell b1
  clear b1
  simp only [rowV, whV]
  go_wp2
  go_ret
  exact ⟨rfl, hb1.out.alloc hb1.out.size _⟩

def uT (op dst src off imm : Int) : Rw := tkR (rowI op src imm) dst src off imm
def uE (op dst src off imm : Int) : Int := tkE (rowI op src imm) dst src off imm
def uP (op dst src off imm : Int) : Int := if uE op dst src off imm ≠ 0 then 0 else if (uT op dst src off imm).cls = 10 then 2 else if (uT op dst src off imm).cls = 11 then 2 else 1
theorem uplaces (op dst src off imm : Int) (w : World) (h0 : 0 ≤ op) (h1 : op < 256) (d0 : 0 ≤ dst) (d1 : dst < 256) (s0 : 0 ≤ src) (s1 : src < 256) (o0 : -32768 ≤ off) (o1 : off < 32768) (m0 : -2147483648 ≤ imm) (m1 : imm < 2147483648) (hz : SzOk w) : Calls Tryz.prog 101 #[.agg #[.int .u8 op, .int .u8 dst, .int .u8 src, .int .i16 off, .int .i32 imm]] w fun e w' => e = .returned (.int .i64 (uP op dst src off imm)) ∧ Below w.heap.size w w' := by
  have HT := hid fun W h => of_any op dst src off imm W h0 h1 d0 d1 s0 s1 o0 o1 m0 m1 h
  unfold uP
  by_cases h : uE op dst src off imm = 0
  · rw [if_neg (by simpa using h)]
    by_cases a : (uT op dst src off imm).cls = 10
    · rw [if_pos a]; exact places_a (uT op dst src off imm) (uE op dst src off imm) op dst src off imm w d0 d1 hz HT (by simpa using h) (by simpa using a)
    rw [if_neg a]
    by_cases b : (uT op dst src off imm).cls = 11
    · rw [if_pos b]; exact places_b (uT op dst src off imm) (uE op dst src off imm) op dst src off imm w d0 d1 hz HT (by simpa using h) (by simpa using a) (by simpa using b)
    · rw [if_neg b]; exact places_n (uT op dst src off imm) (uE op dst src off imm) op dst src off imm w d0 d1 hz HT (by simpa using h) (by simpa using a) (by simpa using b)
  · rw [if_pos h]; exact places_e (uT op dst src off imm) (uE op dst src off imm) op dst src off imm w d0 d1 hz HT (by simpa using h)
end Go.Proofs.YtjcnpjidkimldaaGreatDoor.Is
