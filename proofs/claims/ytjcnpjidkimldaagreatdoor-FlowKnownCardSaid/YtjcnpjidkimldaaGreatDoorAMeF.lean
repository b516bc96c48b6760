/-
  Slots: what makes one right, as the landed code has it; the comparison of two slots. Contracts of a slot's right, as the landed code has it. Contracts of a slot's right where it holds bytes, as the landed code has it. Contracts of a slot's load, as the landed code has it. Contracts of Right, as the landed code has it.
-/
import Derived.Test.YtjcnpjidkimldaaGreatDoorAMeG
import Derived.DeepKeys
namespace Go.Proofs.YtjcnpjidkimldaaGreatDoor.Me
set_option linter.unusedSimpArgs false
set_option linter.unusedVariables false
set_option maxRecDepth 100000
open Go.ChangeShapes Go.WideShapes Go.ChangeAt Go.RowKit

theorem wf_u8 (x : Int) (h : 0 ≤ x ∧ x < 256) : (Lit.int .u8 x).wf = true := by
  have a : (0 : Int) ≤ x := h.1
  have b : x ≤ 255 := by omega
  simp [Lit.wf, IntKind.min, IntKind.max, IntKind.signed, IntKind.bits, a, b]
theorem wf_i64 (x : Int) (h : -9223372036854775808 ≤ x ∧ x < 9223372036854775808) : (Lit.int .i64 x).wf = true := by
  have a := h.1
  have b : x ≤ 9223372036854775807 := by omega
  simp [Lit.wf, IntKind.min, IntKind.max, IntKind.signed, IntKind.bits, a, b]
theorem wf_u64 (x : Int) (h : 0 ≤ x ∧ x < 18446744073709551616) : (Lit.int .u64 x).wf = true := by
  have a := h.1
  have b : x ≤ 18446744073709551615 := by omega
  simp [Lit.wf, IntKind.min, IntKind.max, IntKind.signed, IntKind.bits, a, b]

theorem c5 : Tryz.prog.cellsOf 5 = 1 := by kernel_rfl
theorem c3 : Tryz.prog.cellsOf 3 = 1 := by kernel_rfl
theorem c23 : Tryz.prog.cellsOf 33 = 1 := by kernel_rfl
theorem c2 : Tryz.prog.cellsOf 2 = 1 := by kernel_rfl
theorem kl_u8 (D : Nat) (x : Int) (h : 0 ≤ x ∧ x < 256) : Tryz.prog.keyLits (D + 1) 5 [.int .u8 x] = some [.int .u8 x] := by
  simp [Program.keyLits, Tryz.underlying5, wf_u8 x h]
theorem kl_i64 (D : Nat) (x : Int) (h : -9223372036854775808 ≤ x ∧ x < 9223372036854775808) : Tryz.prog.keyLits (D + 1) 3 [.int .i64 x] = some [.int .i64 x] := by
  simp [Program.keyLits, Tryz.underlying3, wf_i64 x h]
theorem kl_i64' (D : Nat) (x : Int) (h : -9223372036854775808 ≤ x ∧ x < 9223372036854775808) : Tryz.prog.keyLits (D + 1) 2 [.int .i64 x] = some [.int .i64 x] := by
  simp [Program.keyLits, Tryz.underlying2, wf_i64 x h]
theorem kl_u64 (D : Nat) (x : Int) (h : 0 ≤ x ∧ x < 18446744073709551616) : Tryz.prog.keyLits (D + 1) 33 [.int .u64 x] = some [.int .u64 x] := by
  simp [Program.keyLits, Tryz.underlying33, wf_u64 x h]
/-- A frame's cells. -/
def fC (F : Nat → Sl) : List Value := (List.range 64).flatMap fun k => sC (F k)
theorem flat_len {α : Type} (f : Nat → List α) (c : Nat) : ∀ n, (∀ k, k < n → (f k).length = c) → ((List.range n).flatMap f).length = n * c
  | 0, _ => by simp
  | n + 1, h => by
    rw [List.range_succ, List.flatMap_append, List.length_append, flat_len f c n (fun k hk => h k (by omega))]
    simp [h n (by omega), Nat.succ_mul]
theorem flat_at {α : Type} (f : Nat → List α) (c : Nat) : ∀ n, (∀ k, k < n → (f k).length = c) → ∀ i j, i < n → j < c → ((List.range n).flatMap f)[i * c + j]? = (f i)[j]?
  | 0, _, i, j, hi, _ => by omega
  | n + 1, h, i, j, hi, hj => by
    have hl := flat_len f c n (fun k hk => h k (by omega))
    rw [List.range_succ, List.flatMap_append]
    by_cases e : i = n
    · subst e
      rw [List.getElem?_append_right (by rw [hl]; omega), hl]
      simp
    · have hin : i < n := by omega
      have : i * c + c ≤ n * c := by rw [← Nat.succ_mul]; exact Nat.mul_le_mul_right c hin
      rw [List.getElem?_append_left (by rw [hl]; omega)]
      exact flat_at f c n (fun k hk => h k (by omega)) i j hin hj
end Go.Proofs.YtjcnpjidkimldaaGreatDoor.Me

namespace Go.Proofs.YtjcnpjidkimldaaGreatDoor.Me
set_option linter.unusedSimpArgs false
set_option linter.unusedVariables false
set_option maxRecDepth 100000
open Go.ChangeShapes Go.WideShapes Go.ChangeAt Go.RowKit

theorem bcell {W w1 : World} (hb : Below W.heap.size W w1) : (∀ b o, b < W.heap.size → w1.cell? ⟨b, o, none⟩ = W.cell? ⟨b, o, none⟩) ∧ (∀ b o, b < W.heap.size → w1.frozen? ⟨b, o, none⟩ = W.frozen? ⟨b, o, none⟩) :=
  ⟨fun b o h => hb.cell (p := ⟨b, o, none⟩) h, fun b o h => hb.frozen (p := ⟨b, o, none⟩) h⟩
theorem below_next_w {n : Nat} {a b c : World} (h : Below n a b) (k : Below b.heap.size b c) (hn : n ≤ b.heap.size := by omega) : Below n a c := h.trans (k.mono hn)

end Go.Proofs.YtjcnpjidkimldaaGreatDoor.Me

namespace Go.Proofs.YtjcnpjidkimldaaGreatDoor.Me
set_option linter.unusedSimpArgs false
set_option linter.unusedVariables false
set_option maxRecDepth 100000
open Go.ChangeShapes Go.WideShapes Go.ChangeAt Go.RowKit

end Go.Proofs.YtjcnpjidkimldaaGreatDoor.Me

namespace Go.Proofs.YtjcnpjidkimldaaGreatDoor.Me
set_option linter.unusedSimpArgs false
set_option linter.unusedVariables false
set_option maxRecDepth 100000
open Go.ChangeShapes Go.WideShapes Go.ChangeAt Go.RowKit

theorem range_below {W W' : World} {b o : Nat} {cs : List Value} (h : W.rangeAt b o cs) (hb : b < W.heap.size) (hc : ∀ b o, b < W.heap.size → W'.cell? ⟨b, o, none⟩ = W.cell? ⟨b, o, none⟩) : W'.rangeAt b o cs := fun j v hv => by
  rw [hc _ _ hb]
  exact h j v hv
end Go.Proofs.YtjcnpjidkimldaaGreatDoor.Me

namespace Go.Proofs.YtjcnpjidkimldaaGreatDoor.Me
set_option linter.unusedSimpArgs false
set_option linter.unusedVariables false
set_option maxRecDepth 100000
open Go.ChangeShapes Go.WideShapes Go.ChangeAt Go.RowKit

/-- A frame in a block of the call's own. -/
structure FrI (g : Nat) (w W : World) (F : Nat → Sl) : Prop where
  bel : Below g w W
  sz : g < W.heap.size
  r0 : W.rangeAt g 0 (fC F)
theorem FrI.next {g : Nat} {w W W' : World} {F : Nat → Sl} (h : FrI g w W F) (hb : Below W.heap.size W W') : FrI g w W' F := by
  obtain ⟨hc, hf⟩ := bcell hb
  have hz := h.sz
  have hz' := hb.size
  exact ⟨below_next_w h.bel hb, by omega, range_below h.r0 (by omega) hc⟩
theorem FrI.first (w : World) (F : Nat → Sl) (t : TypeId) : FrI w.heap.size w (w.alloc (.cells (fC F).toArray t)) F := by
  refine ⟨(Below.refl _ _).alloc (Nat.le_refl _) _, by simp, ?_⟩
  intro j v hv
  rw [cell_of_row _ _ _ (fC F).toArray t (0, 0) (heap_alloc_last w _)]
  simpa using hv

end Go.Proofs.YtjcnpjidkimldaaGreatDoor.Me
