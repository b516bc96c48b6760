/-
  The contract of aluRow.
-/
import Derived.Test.YtdnkikgfiganaaaDoorInsnH
namespace Go.Proofs.YtdnkikgfiganaaaDoor
open Go.ChangeShapes Go.WideShapes Go.ChangeAt Go.RowKit

theorem alu_a (op : Int) (w : World) (h0 : 0 ≤ op) (h1 : op < 256) (ho : op / 16 > 12) : Calls Tryd.prog 87 #[.int .u8 op] w fun e w' => e = .returned (rowV (aluR op)) ∧ Below w.heap.size w w' := by
  have hr : aluR op = r0 := by
    unfold aluR
    rw [if_pos ho]
  rw [hr]
  clear hr
  have g1 := u8_and7 op h0 h1
  have g2 : bits .and .u8 op 8 = if op / 8 % 2 = 1 then 8 else 0 := u8_and8 op h0 h1
  have g3 : decide (12 < op / 16) = true := by simp; omega
  clear ho
  by_cases hg : op / 8 % 2 = 1
  all_goals simp only [hg, if_true, if_false] at g2
  all_goals
    clear hg
    go_enter Tryd.func87, Tryd.ntmps87
    go_wp2
    exact bodyPost_ret (v := rowV r0) (by simp [results, Tryd.results87, go_sem]; rfl) rfl ⟨rfl, ((Below.refl _ _).alloc (Nat.le_refl _) _).alloc (by simp) _⟩

theorem alu_b (op : Int) (w : World) (h0 : 0 ≤ op) (h1 : op < 256) (ho : op / 16 = 8) (hg : op / 8 % 2 = 1) : Calls Tryd.prog 87 #[.int .u8 op] w fun e w' => e = .returned (rowV (aluR op)) ∧ Below w.heap.size w w' := by
  have hr : aluR op = r0 := by
    unfold aluR
    rw [if_neg (by omega), if_pos ho, if_pos hg]
  rw [hr]
  clear hr
  have g1 := u8_and7 op h0 h1
  have g2 : bits .and .u8 op 8 = 8 := by rw [u8_and8 op h0 h1, if_pos hg]
  have g3 : decide (12 < op / 16) = false := by simp; omega
  have g4 : (op / 16 == 8) = true := by simp; omega
  clear ho hg
  go_enter Tryd.func87, Tryd.ntmps87
  go_wp2
  exact bodyPost_ret (v := rowV r0) (by simp [results, Tryd.results87, go_sem]; rfl) rfl ⟨rfl, ((Below.refl _ _).alloc (Nat.le_refl _) _).alloc (by simp) _⟩

theorem alu_c (op : Int) (w : World) (h0 : 0 ≤ op) (h1 : op < 256) (ho : op / 16 = 8) (hg : ¬ op / 8 % 2 = 1) : Calls Tryd.prog 87 #[.int .u8 op] w fun e w' => e = .returned (rowV (aluR op)) ∧ Below w.heap.size w w' := by
  have hr : aluR op = ⟨1, op / 16, 0, op % 8 == 7, false, 3, 0, 0, 0⟩ := by
    unfold aluR
    rw [if_neg (by omega), if_pos ho, if_neg hg]
  rw [hr]
  clear hr
  have g1 := u8_and7 op h0 h1
  have g2 : bits .and .u8 op 8 = 0 := by rw [u8_and8 op h0 h1, if_neg hg]
  have g3 : decide (12 < op / 16) = false := by simp; omega
  have g4 : (op / 16 == 8) = true := by simp; omega
  clear ho hg
  go_enter Tryd.func87, Tryd.ntmps87
  go_wp2
  exact bodyPost_ret (v := rowV ⟨1, op / 16, 0, op % 8 == 7, false, 3, 0, 0, 0⟩) (by simp [results, Tryd.results87, go_sem]; rfl) rfl ⟨rfl, ((Below.refl _ _).alloc (Nat.le_refl _) _).alloc (by simp) _⟩

theorem alu_d (op : Int) (w : World) (h0 : 0 ≤ op) (h1 : op < 256) (ho : ¬ op / 16 > 12) (hn : ¬ op / 16 = 8) (hg : op / 8 % 2 = 1) : Calls Tryd.prog 87 #[.int .u8 op] w fun e w' => e = .returned (rowV (aluR op)) ∧ Below w.heap.size w w' := by
  have hr : aluR op = ⟨1, op / 16, 0, op % 8 == 7, true, 3, 2, 0, 0⟩ := by
    unfold aluR
    rw [if_neg ho, if_neg hn, if_pos hg]
  rw [hr]
  clear hr
  have g1 := u8_and7 op h0 h1
  have g2 : bits .and .u8 op 8 = 8 := by rw [u8_and8 op h0 h1, if_pos hg]
  have g3 : decide (12 < op / 16) = false := by simp; omega
  have g4 : (op / 16 == 8) = false := by simp; omega
  clear ho hg hn
  go_enter Tryd.func87, Tryd.ntmps87
  go_wp2
  exact bodyPost_ret (v := rowV ⟨1, op / 16, 0, op % 8 == 7, true, 3, 2, 0, 0⟩) (by simp [results, Tryd.results87, go_sem]; rfl) rfl ⟨rfl, ((Below.refl _ _).alloc (Nat.le_refl _) _).alloc (by simp) _⟩

theorem alu_e (op : Int) (w : World) (h0 : 0 ≤ op) (h1 : op < 256) (ho : ¬ op / 16 > 12) (hn : ¬ op / 16 = 8) (hg : ¬ op / 8 % 2 = 1) : Calls Tryd.prog 87 #[.int .u8 op] w fun e w' => e = .returned (rowV (aluR op)) ∧ Below w.heap.size w w' := by
  have hr : aluR op = ⟨1, op / 16, 0, op % 8 == 7, false, 3, 0, 0, 1⟩ := by
    unfold aluR
    rw [if_neg ho, if_neg hn, if_neg hg]
  rw [hr]
  clear hr
  have g1 := u8_and7 op h0 h1
  have g2 : bits .and .u8 op 8 = 0 := by rw [u8_and8 op h0 h1, if_neg hg]
  have g3 : decide (12 < op / 16) = false := by simp; omega
  have g4 : (op / 16 == 8) = false := by simp; omega
  clear ho hg hn
  go_enter Tryd.func87, Tryd.ntmps87
  go_wp2
  exact bodyPost_ret (v := rowV ⟨1, op / 16, 0, op % 8 == 7, false, 3, 0, 0, 1⟩) (by simp [results, Tryd.results87, go_sem]; rfl) rfl ⟨rfl, ((Below.refl _ _).alloc (Nat.le_refl _) _).alloc (by simp) _⟩

theorem aluRow_any (op : Int) (w : World) (h0 : 0 ≤ op) (h1 : op < 256) : Calls Tryd.prog 87 #[.int .u8 op] w fun e w' => e = .returned (rowV (aluR op)) ∧ Below w.heap.size w w' := by
  by_cases ho : op / 16 > 12
  · exact alu_a op w h0 h1 ho
  by_cases hn : op / 16 = 8
  · by_cases hg : op / 8 % 2 = 1
    · exact alu_b op w h0 h1 hn hg
    · exact alu_c op w h0 h1 hn hg
  by_cases hg : op / 8 % 2 = 1
  · exact alu_d op w h0 h1 ho hn hg
  · exact alu_e op w h0 h1 ho hn hg

end Go.Proofs.YtdnkikgfiganaaaDoor
