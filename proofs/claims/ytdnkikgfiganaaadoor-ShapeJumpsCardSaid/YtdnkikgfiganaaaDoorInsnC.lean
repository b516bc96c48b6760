/-
  The contract of memoryRow.
-/
import Derived.Test.YtdnkikgfiganaaaDoorInsnH
namespace Go.Proofs.YtdnkikgfiganaaaDoor
open Go.ChangeShapes Go.WideShapes Go.ChangeAt Go.RowKit

theorem mem_a (op : Int) (w : World) (_h0 : 0 ≤ op) (_h1 : op < 256) (ho : op / 32 ≠ 3) : Calls Tryd.prog 86 #[.int .u8 op] w fun e w' => e = .returned (rowV (memI op)) ∧ Below w.heap.size w w' := by
  have hr : memI op = r0 := by unfold memI; rw [if_pos ho]
  rw [hr]
  clear hr
  have g3 : (op / 32 != 3) = true := by simpa using ho
  clear ho
  go_enter Tryd.func86, Tryd.ntmps86
  go_wp2
  exact bodyPost_ret (v := rowV r0) (by simp [results, Tryd.results86, go_sem]; rfl) rfl ⟨rfl, (Below.refl _ _).alloc (Nat.le_refl _) _⟩

theorem mem_b (op : Int) (w : World) (h0 : 0 ≤ op) (h1 : op < 256) (hz : SzOk w) (ho : op / 32 = 3) (hm : op % 8 = 1) : Calls Tryd.prog 86 #[.int .u8 op] w fun e w' => e = .returned (rowV (memI op)) ∧ Below w.heap.size w w' := by
  have g0 : (op / 32 != 3) = false := by simpa using ho
  have g1 := u8_and7 op h0 h1
  have g2 : (op % 8 == 1) = true := by simpa using hm
  have hr : memI op = ⟨3, 0, sizI (op / 8 % 4), false, false, 3, 2, 1, 0⟩ := by
    unfold memI
    rw [if_neg (by omega), if_pos hm]
  have hq := four (op / 8)
  obtain ⟨z, z0, z1, z2, z3⟩ := hz
  rcases hq with e | e | e | e
  · have gi : bits .and .u8 (op / 8) 3 = 0 := by rw [u8_and3 (op / 8) (by omega) (by omega), e]
    rw [show memI op = ⟨3, 0, 4, false, false, 3, 2, 1, 0⟩ from by rw [hr, e]; rfl]
    clear hr e ho hm
    go_enter Tryd.func86, Tryd.ntmps86
    go_wp2
    exact bodyPost_ret (v := rowV ⟨3, 0, 4, false, false, 3, 2, 1, 0⟩) (by simp [results, Tryd.results86, go_sem]; rfl) rfl ⟨rfl, (Below.refl _ _).alloc (Nat.le_refl _) _⟩
  · have gi : bits .and .u8 (op / 8) 3 = 1 := by rw [u8_and3 (op / 8) (by omega) (by omega), e]
    rw [show memI op = ⟨3, 0, 2, false, false, 3, 2, 1, 0⟩ from by rw [hr, e]; rfl]
    clear hr e ho hm
    go_enter Tryd.func86, Tryd.ntmps86
    go_wp2
    exact bodyPost_ret (v := rowV ⟨3, 0, 2, false, false, 3, 2, 1, 0⟩) (by simp [results, Tryd.results86, go_sem]; rfl) rfl ⟨rfl, (Below.refl _ _).alloc (Nat.le_refl _) _⟩
  · have gi : bits .and .u8 (op / 8) 3 = 2 := by rw [u8_and3 (op / 8) (by omega) (by omega), e]
    rw [show memI op = ⟨3, 0, 1, false, false, 3, 2, 1, 0⟩ from by rw [hr, e]; rfl]
    clear hr e ho hm
    go_enter Tryd.func86, Tryd.ntmps86
    go_wp2
    exact bodyPost_ret (v := rowV ⟨3, 0, 1, false, false, 3, 2, 1, 0⟩) (by simp [results, Tryd.results86, go_sem]; rfl) rfl ⟨rfl, (Below.refl _ _).alloc (Nat.le_refl _) _⟩
  · have gi : bits .and .u8 (op / 8) 3 = 3 := by rw [u8_and3 (op / 8) (by omega) (by omega), e]
    rw [show memI op = ⟨3, 0, 8, false, false, 3, 2, 1, 0⟩ from by rw [hr, e]; rfl]
    clear hr e ho hm
    go_enter Tryd.func86, Tryd.ntmps86
    go_wp2
    exact bodyPost_ret (v := rowV ⟨3, 0, 8, false, false, 3, 2, 1, 0⟩) (by simp [results, Tryd.results86, go_sem]; rfl) rfl ⟨rfl, (Below.refl _ _).alloc (Nat.le_refl _) _⟩

theorem mem_c (op : Int) (w : World) (h0 : 0 ≤ op) (h1 : op < 256) (hz : SzOk w) (ho : op / 32 = 3) (hm : op % 8 = 2) : Calls Tryd.prog 86 #[.int .u8 op] w fun e w' => e = .returned (rowV (memI op)) ∧ Below w.heap.size w w' := by
  have g0 : (op / 32 != 3) = false := by simpa using ho
  have g1 := u8_and7 op h0 h1
  have g2 : (op % 8 == 1) = false := by simp; omega
  have g3 : (op % 8 == 2) = true := by simpa using hm
  have hr : memI op = ⟨5, 0, sizI (op / 8 % 4), false, false, 2, 0, 1, 1⟩ := by
    unfold memI
    rw [if_neg (by omega), if_neg (by omega), if_pos hm]
  have hq := four (op / 8)
  obtain ⟨z, z0, z1, z2, z3⟩ := hz
  rcases hq with e | e | e | e
  · have gi : bits .and .u8 (op / 8) 3 = 0 := by rw [u8_and3 (op / 8) (by omega) (by omega), e]
    rw [show memI op = ⟨5, 0, 4, false, false, 2, 0, 1, 1⟩ from by rw [hr, e]; rfl]
    clear hr e ho hm
    go_enter Tryd.func86, Tryd.ntmps86
    go_wp2
    exact bodyPost_ret (v := rowV ⟨5, 0, 4, false, false, 2, 0, 1, 1⟩) (by simp [results, Tryd.results86, go_sem]; rfl) rfl ⟨rfl, (Below.refl _ _).alloc (Nat.le_refl _) _⟩
  · have gi : bits .and .u8 (op / 8) 3 = 1 := by rw [u8_and3 (op / 8) (by omega) (by omega), e]
    rw [show memI op = ⟨5, 0, 2, false, false, 2, 0, 1, 1⟩ from by rw [hr, e]; rfl]
    clear hr e ho hm
    go_enter Tryd.func86, Tryd.ntmps86
    go_wp2
    exact bodyPost_ret (v := rowV ⟨5, 0, 2, false, false, 2, 0, 1, 1⟩) (by simp [results, Tryd.results86, go_sem]; rfl) rfl ⟨rfl, (Below.refl _ _).alloc (Nat.le_refl _) _⟩
  · have gi : bits .and .u8 (op / 8) 3 = 2 := by rw [u8_and3 (op / 8) (by omega) (by omega), e]
    rw [show memI op = ⟨5, 0, 1, false, false, 2, 0, 1, 1⟩ from by rw [hr, e]; rfl]
    clear hr e ho hm
    go_enter Tryd.func86, Tryd.ntmps86
    go_wp2
    exact bodyPost_ret (v := rowV ⟨5, 0, 1, false, false, 2, 0, 1, 1⟩) (by simp [results, Tryd.results86, go_sem]; rfl) rfl ⟨rfl, (Below.refl _ _).alloc (Nat.le_refl _) _⟩
  · have gi : bits .and .u8 (op / 8) 3 = 3 := by rw [u8_and3 (op / 8) (by omega) (by omega), e]
    rw [show memI op = ⟨5, 0, 8, false, false, 2, 0, 1, 1⟩ from by rw [hr, e]; rfl]
    clear hr e ho hm
    go_enter Tryd.func86, Tryd.ntmps86
    go_wp2
    exact bodyPost_ret (v := rowV ⟨5, 0, 8, false, false, 2, 0, 1, 1⟩) (by simp [results, Tryd.results86, go_sem]; rfl) rfl ⟨rfl, (Below.refl _ _).alloc (Nat.le_refl _) _⟩

theorem mem_d (op : Int) (w : World) (h0 : 0 ≤ op) (h1 : op < 256) (hz : SzOk w) (ho : op / 32 = 3) (hm : ¬ op % 8 = 1) (hm2 : ¬ op % 8 = 2) : Calls Tryd.prog 86 #[.int .u8 op] w fun e w' => e = .returned (rowV (memI op)) ∧ Below w.heap.size w w' := by
  have g0 : (op / 32 != 3) = false := by simpa using ho
  have g1 := u8_and7 op h0 h1
  have g2 : (op % 8 == 1) = false := by simpa using hm
  have g3 : (op % 8 == 2) = false := by simpa using hm2
  have hr : memI op = ⟨4, 0, sizI (op / 8 % 4), false, false, 2, 2, 1, 0⟩ := by
    unfold memI
    rw [if_neg (by omega), if_neg hm, if_neg hm2]
  have hq := four (op / 8)
  obtain ⟨z, z0, z1, z2, z3⟩ := hz
  rcases hq with e | e | e | e
  · have gi : bits .and .u8 (op / 8) 3 = 0 := by rw [u8_and3 (op / 8) (by omega) (by omega), e]
    rw [show memI op = ⟨4, 0, 4, false, false, 2, 2, 1, 0⟩ from by rw [hr, e]; rfl]
    clear hr e ho hm hm2
    go_enter Tryd.func86, Tryd.ntmps86
    go_wp2
    exact bodyPost_ret (v := rowV ⟨4, 0, 4, false, false, 2, 2, 1, 0⟩) (by simp [results, Tryd.results86, go_sem]; rfl) rfl ⟨rfl, (Below.refl _ _).alloc (Nat.le_refl _) _⟩
  · have gi : bits .and .u8 (op / 8) 3 = 1 := by rw [u8_and3 (op / 8) (by omega) (by omega), e]
    rw [show memI op = ⟨4, 0, 2, false, false, 2, 2, 1, 0⟩ from by rw [hr, e]; rfl]
    clear hr e ho hm hm2
    go_enter Tryd.func86, Tryd.ntmps86
    go_wp2
    exact bodyPost_ret (v := rowV ⟨4, 0, 2, false, false, 2, 2, 1, 0⟩) (by simp [results, Tryd.results86, go_sem]; rfl) rfl ⟨rfl, (Below.refl _ _).alloc (Nat.le_refl _) _⟩
  · have gi : bits .and .u8 (op / 8) 3 = 2 := by rw [u8_and3 (op / 8) (by omega) (by omega), e]
    rw [show memI op = ⟨4, 0, 1, false, false, 2, 2, 1, 0⟩ from by rw [hr, e]; rfl]
    clear hr e ho hm hm2
    go_enter Tryd.func86, Tryd.ntmps86
    go_wp2
    exact bodyPost_ret (v := rowV ⟨4, 0, 1, false, false, 2, 2, 1, 0⟩) (by simp [results, Tryd.results86, go_sem]; rfl) rfl ⟨rfl, (Below.refl _ _).alloc (Nat.le_refl _) _⟩
  · have gi : bits .and .u8 (op / 8) 3 = 3 := by rw [u8_and3 (op / 8) (by omega) (by omega), e]
    rw [show memI op = ⟨4, 0, 8, false, false, 2, 2, 1, 0⟩ from by rw [hr, e]; rfl]
    clear hr e ho hm hm2
    go_enter Tryd.func86, Tryd.ntmps86
    go_wp2
    exact bodyPost_ret (v := rowV ⟨4, 0, 8, false, false, 2, 2, 1, 0⟩) (by simp [results, Tryd.results86, go_sem]; rfl) rfl ⟨rfl, (Below.refl _ _).alloc (Nat.le_refl _) _⟩

theorem memoryRow_any (op : Int) (w : World) (h0 : 0 ≤ op) (h1 : op < 256) (hz : SzOk w) : Calls Tryd.prog 86 #[.int .u8 op] w fun e w' => e = .returned (rowV (memI op)) ∧ Below w.heap.size w w' := by
  by_cases ho : op / 32 = 3
  · by_cases hm : op % 8 = 1
    · exact mem_b op w h0 h1 hz ho hm
    by_cases hn : op % 8 = 2
    · exact mem_c op w h0 h1 hz ho hn
    exact mem_d op w h0 h1 hz ho hm hn
  · exact mem_a op w h0 h1 ho

end Go.Proofs.YtdnkikgfiganaaaDoor
