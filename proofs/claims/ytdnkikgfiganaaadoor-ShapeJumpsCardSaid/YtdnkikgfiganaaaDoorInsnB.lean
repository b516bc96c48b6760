/-
  The contract of jumpRow.
-/
import Derived.Test.YtdnkikgfiganaaaDoorInsnH
namespace Go.Proofs.YtdnkikgfiganaaaDoor
open Go.ChangeShapes Go.WideShapes Go.ChangeAt Go.RowKit

theorem jmp_a (op : Int) (w : World) (h0 : 0 ≤ op) (h1 : op < 256) (ho : op / 16 < 1) : Calls Tryd.prog 88 #[.int .u8 op] w fun e w' => e = .returned (rowV (jmpR op)) ∧ Below w.heap.size w w' := by
  have hr : jmpR op = r0 := by
    unfold jmpR
    rw [if_pos ho]
  rw [hr]
  clear hr
  have g1 := u8_and7 op h0 h1
  have g2 : bits .and .u8 op 8 = if op / 8 % 2 = 1 then 8 else 0 := u8_and8 op h0 h1
  have g3 : decide (op / 16 < 1) = true := by simp; omega
  clear ho
  by_cases hg : op / 8 % 2 = 1
  all_goals simp only [hg, if_true, if_false] at g2
  all_goals
    clear hg
    go_enter Tryd.func88, Tryd.ntmps88
    go_wp2
    exact bodyPost_ret (v := rowV r0) (by simp [results, Tryd.results88, go_sem]; rfl) rfl ⟨rfl, ((Below.refl _ _).alloc (Nat.le_refl _) _).alloc (by simp) _⟩

theorem jmp_b (op : Int) (w : World) (h0 : 0 ≤ op) (h1 : op < 256) (ho : op / 16 > 7 ∧ op / 16 < 10) : Calls Tryd.prog 88 #[.int .u8 op] w fun e w' => e = .returned (rowV (jmpR op)) ∧ Below w.heap.size w w' := by
  have hr : jmpR op = r0 := by
    unfold jmpR
    rw [if_neg (by omega), if_pos ho]
  rw [hr]
  clear hr
  have g1 := u8_and7 op h0 h1
  have g2 : bits .and .u8 op 8 = if op / 8 % 2 = 1 then 8 else 0 := u8_and8 op h0 h1
  have g3 : decide (op / 16 < 1) = false := by simp; omega
  have g4 : decide (7 < op / 16) = true := by simp; omega
  have g5 : decide (op / 16 < 10) = true := by simp; omega
  clear ho
  by_cases hg : op / 8 % 2 = 1
  all_goals simp only [hg, if_true, if_false] at g2
  all_goals
    clear hg
    go_enter Tryd.func88, Tryd.ntmps88
    go_wp2
    exact bodyPost_ret (v := rowV r0) (by simp [results, Tryd.results88, go_sem]; rfl) rfl ⟨rfl, ((Below.refl _ _).alloc (Nat.le_refl _) _).alloc (by simp) _⟩

theorem jmp_c (op : Int) (w : World) (h0 : 0 ≤ op) (h1 : op < 256) (ho : op / 16 > 13) : Calls Tryd.prog 88 #[.int .u8 op] w fun e w' => e = .returned (rowV (jmpR op)) ∧ Below w.heap.size w w' := by
  have hr : jmpR op = r0 := by
    unfold jmpR
    rw [if_neg (by omega), if_neg (by omega), if_pos ho]
  rw [hr]
  clear hr
  have g1 := u8_and7 op h0 h1
  have g2 : bits .and .u8 op 8 = if op / 8 % 2 = 1 then 8 else 0 := u8_and8 op h0 h1
  have g3 : decide (op / 16 < 1) = false := by simp; omega
  have g4 : decide (7 < op / 16) = true := by simp; omega
  have g5 : decide (op / 16 < 10) = false := by simp; omega
  have g6 : decide (13 < op / 16) = true := by simp; omega
  clear ho
  by_cases hg : op / 8 % 2 = 1
  all_goals simp only [hg, if_true, if_false] at g2
  all_goals
    clear hg
    go_enter Tryd.func88, Tryd.ntmps88
    go_wp2
    exact bodyPost_ret (v := rowV r0) (by simp [results, Tryd.results88, go_sem]; rfl) rfl ⟨rfl, ((Below.refl _ _).alloc (Nat.le_refl _) _).alloc (by simp) _⟩

theorem jmp_d1 (op : Int) (w : World) (h0 : 0 ≤ op) (h1 : op < 256) (ha : op / 16 ≥ 1) (hb : op / 16 ≤ 13) (hc : op / 16 ≥ 10) (hg : op / 8 % 2 = 1) : Calls Tryd.prog 88 #[.int .u8 op] w fun e w' => e = .returned (rowV (jmpR op)) ∧ Below w.heap.size w w' := by
  have hr : jmpR op = ⟨6, op / 16, 0, op % 8 == 5, true, 2, 2, 1, 0⟩ := by
    unfold jmpR
    rw [if_neg (by omega), if_neg (by omega), if_neg (by omega), if_pos hg]
  rw [hr]
  clear hr
  have g1 := u8_and7 op h0 h1
  have g2 : bits .and .u8 op 8 = 8 := by rw [u8_and8 op h0 h1, if_pos hg]
  have g3 : decide (op / 16 < 1) = false := by simp; omega
  have g4 : decide (7 < op / 16) = true := by simp; omega
  have g5 : decide (op / 16 < 10) = false := by simp; omega
  have g6 : decide (13 < op / 16) = false := by simp; omega
  clear ha hb hc hg
  go_enter Tryd.func88, Tryd.ntmps88
  go_wp2
  exact bodyPost_ret (v := rowV ⟨6, op / 16, 0, op % 8 == 5, true, 2, 2, 1, 0⟩) (by simp [results, Tryd.results88, go_sem]; rfl) rfl ⟨rfl, ((Below.refl _ _).alloc (Nat.le_refl _) _).alloc (by simp) _⟩

theorem jmp_d0 (op : Int) (w : World) (h0 : 0 ≤ op) (h1 : op < 256) (ha : op / 16 ≥ 1) (hb : op / 16 ≤ 13) (hc : op / 16 ≥ 10) (hg : ¬ op / 8 % 2 = 1) : Calls Tryd.prog 88 #[.int .u8 op] w fun e w' => e = .returned (rowV (jmpR op)) ∧ Below w.heap.size w w' := by
  have hr : jmpR op = ⟨6, op / 16, 0, op % 8 == 5, false, 2, 0, 1, 1⟩ := by
    unfold jmpR
    rw [if_neg (by omega), if_neg (by omega), if_neg (by omega), if_neg hg]
  rw [hr]
  clear hr
  have g1 := u8_and7 op h0 h1
  have g2 : bits .and .u8 op 8 = 0 := by rw [u8_and8 op h0 h1, if_neg hg]
  have g3 : decide (op / 16 < 1) = false := by simp; omega
  have g4 : decide (7 < op / 16) = true := by simp; omega
  have g5 : decide (op / 16 < 10) = false := by simp; omega
  have g6 : decide (13 < op / 16) = false := by simp; omega
  clear ha hb hc hg
  go_enter Tryd.func88, Tryd.ntmps88
  go_wp2
  exact bodyPost_ret (v := rowV ⟨6, op / 16, 0, op % 8 == 5, false, 2, 0, 1, 1⟩) (by simp [results, Tryd.results88, go_sem]; rfl) rfl ⟨rfl, ((Below.refl _ _).alloc (Nat.le_refl _) _).alloc (by simp) _⟩

theorem jmp_e1 (op : Int) (w : World) (h0 : 0 ≤ op) (h1 : op < 256) (ha : op / 16 ≥ 1) (hb : op / 16 ≤ 13) (hc : op / 16 ≤ 7) (hg : op / 8 % 2 = 1) : Calls Tryd.prog 88 #[.int .u8 op] w fun e w' => e = .returned (rowV (jmpR op)) ∧ Below w.heap.size w w' := by
  have hr : jmpR op = ⟨6, op / 16, 0, op % 8 == 5, true, 2, 2, 1, 0⟩ := by
    unfold jmpR
    rw [if_neg (by omega), if_neg (by omega), if_neg (by omega), if_pos hg]
  rw [hr]
  clear hr
  have g1 := u8_and7 op h0 h1
  have g2 : bits .and .u8 op 8 = 8 := by rw [u8_and8 op h0 h1, if_pos hg]
  have g3 : decide (op / 16 < 1) = false := by simp; omega
  have g4 : decide (7 < op / 16) = false := by simp; omega
  have g6 : decide (13 < op / 16) = false := by simp; omega
  clear ha hb hc hg
  go_enter Tryd.func88, Tryd.ntmps88
  go_wp2
  exact bodyPost_ret (v := rowV ⟨6, op / 16, 0, op % 8 == 5, true, 2, 2, 1, 0⟩) (by simp [results, Tryd.results88, go_sem]; rfl) rfl ⟨rfl, ((Below.refl _ _).alloc (Nat.le_refl _) _).alloc (by simp) _⟩

theorem jmp_e0 (op : Int) (w : World) (h0 : 0 ≤ op) (h1 : op < 256) (ha : op / 16 ≥ 1) (hb : op / 16 ≤ 13) (hc : op / 16 ≤ 7) (hg : ¬ op / 8 % 2 = 1) : Calls Tryd.prog 88 #[.int .u8 op] w fun e w' => e = .returned (rowV (jmpR op)) ∧ Below w.heap.size w w' := by
  have hr : jmpR op = ⟨6, op / 16, 0, op % 8 == 5, false, 2, 0, 1, 1⟩ := by
    unfold jmpR
    rw [if_neg (by omega), if_neg (by omega), if_neg (by omega), if_neg hg]
  rw [hr]
  clear hr
  have g1 := u8_and7 op h0 h1
  have g2 : bits .and .u8 op 8 = 0 := by rw [u8_and8 op h0 h1, if_neg hg]
  have g3 : decide (op / 16 < 1) = false := by simp; omega
  have g4 : decide (7 < op / 16) = false := by simp; omega
  have g6 : decide (13 < op / 16) = false := by simp; omega
  clear ha hb hc hg
  go_enter Tryd.func88, Tryd.ntmps88
  go_wp2
  exact bodyPost_ret (v := rowV ⟨6, op / 16, 0, op % 8 == 5, false, 2, 0, 1, 1⟩) (by simp [results, Tryd.results88, go_sem]; rfl) rfl ⟨rfl, ((Below.refl _ _).alloc (Nat.le_refl _) _).alloc (by simp) _⟩

theorem jumpRow_any (op : Int) (w : World) (h0 : 0 ≤ op) (h1 : op < 256) : Calls Tryd.prog 88 #[.int .u8 op] w fun e w' => e = .returned (rowV (jmpR op)) ∧ Below w.heap.size w w' := by
  by_cases h2 : op / 16 < 1
  · exact jmp_a op w h0 h1 h2
  by_cases h3 : op / 16 > 7 ∧ op / 16 < 10
  · exact jmp_b op w h0 h1 h3
  by_cases h4 : op / 16 > 13
  · exact jmp_c op w h0 h1 h4
  by_cases h5 : op / 16 ≤ 7
  · by_cases hg : op / 8 % 2 = 1
    · exact jmp_e1 op w h0 h1 (by omega) (by omega) h5 hg
    · exact jmp_e0 op w h0 h1 (by omega) (by omega) h5 hg
  · by_cases hg : op / 8 % 2 = 1
    · exact jmp_d1 op w h0 h1 (by omega) (by omega) (by omega) hg
    · exact jmp_d0 op w h0 h1 (by omega) (by omega) (by omega) hg

end Go.Proofs.YtdnkikgfiganaaaDoor
