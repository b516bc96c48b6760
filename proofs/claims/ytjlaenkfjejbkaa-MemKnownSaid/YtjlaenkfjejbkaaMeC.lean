/-
  Contracts of onStack, bitsOf, holdsAddress, as the landed code has them.
-/
import Derived.Test.YtjlaenkfjejbkaaMeB
namespace Go.Proofs.Ytjlaenkfjejbkaa
set_option linter.unusedSimpArgs false
set_option linter.unusedVariables false
open Go.ChangeShapes Go.WideShapes Go.ChangeAt Go.RowKit

theorem onStack_any (off n : Int) (w : World) (hn : sizeB n = true) (ho : -9223372036854775808 ≤ off ∧ off < 9223372036854775808) :
    Calls Try.prog 30 #[.int .i64 off, .int .i64 n] w fun e w' => e = .returned (.int .i64 (placeE off n)) ∧ w = w' := by
  have hb : 1 ≤ n ∧ n ≤ 8 := by rcases size_cases hn with h | h | h | h <;> omega
  obtain ⟨hb1, hb2⟩ := hb
  have hw := within_any 512 off n w ⟨by decide, by decide⟩ ⟨hb1, hb2⟩ ho
  have hp : placeE off n = if withinB 512 off n = false then 42 else if off % n = 0 then 0 else 43 := rfl
  rw [hp]
  clear hp
  cases h1 : withinB 512 off n
  · rw [h1] at hw
    have HW := hid hw
    clear hw h1
    go_enter Try.func30, Try.ntmps30
    go_wp2_with (go_at_call 41; refine (HW.out).mono ?_; rintro e w1 ⟨rfl, rfl⟩)
    go_ret
    exact ⟨rfl, rfl⟩
  · have hoff : 0 ≤ off := by unfold withinB at h1; simp at h1; omega
    have hoff2 : off ≤ 512 - n := by unfold withinB at h1; simp at h1; omega
    rw [h1] at hw
    have HW := hid hw
    clear hw h1 hn
    obtain ⟨ho1, ho2⟩ := ho
    by_cases h2 : off % n = 0
    · have e2 : (off % n == 0) = true := by simpa using h2
      have e2' : (off % n != 0) = false := by simpa using h2
      have hz : (if (true = false) then (42 : Int) else if off % n = 0 then 0 else 43) = 0 := by simp [h2]
      rw [hz]
      clear hz h2
      go_enter Try.func30, Try.ntmps30
      go_wp2_with (go_at_call 41; refine (HW.out).mono ?_; rintro e w1 ⟨rfl, rfl⟩)
      go_ret
      exact ⟨rfl, rfl⟩
    · have e2 : (off % n == 0) = false := by simpa using h2
      have e2' : (off % n != 0) = true := by simpa using h2
      have hz : (if (true = false) then (42 : Int) else if off % n = 0 then 0 else 43) = 43 := by simp [h2]
      rw [hz]
      clear hz h2
      go_enter Try.func30, Try.ntmps30
      go_wp2_with (go_at_call 41; refine (HW.out).mono ?_; rintro e w1 ⟨rfl, rfl⟩)
      go_ret
      exact ⟨rfl, rfl⟩

theorem bitsOf_any (i s : Nat) (w : World) (hs : s = 1 ∨ s = 2 ∨ s = 4 ∨ s = 8) (hi : i + s ≤ 8) :
    Calls Try.prog 42 #[.int .i64 (i : Int), .int .i64 (s : Int)] w fun e w' => e = .returned (.int .u8 (bitsI i s)) ∧ w = w' := by
  have hi' : i = 0 ∨ i = 1 ∨ i = 2 ∨ i = 3 ∨ i = 4 ∨ i = 5 ∨ i = 6 ∨ i = 7 := by omega
  rcases hs with rfl | rfl | rfl | rfl <;> rcases hi' with rfl | rfl | rfl | rfl | rfl | rfl | rfl | rfl <;> first
    | (exfalso; omega)
    | (clear hi
       go_enter Try.func42, Try.ntmps42
       go_wp2
       go_ret
       exact ⟨rfl, rfl⟩)

/-- A slot's cells. -/
def bC (l : List Int) : List Value := l.map (Value.int .u8)
def sC (s : Sl) : List Value := Value.int .u8 s.h :: (bC s.b ++ vC s.v)
theorem sC_len {s : Sl} (h : SOk s) : (sC s).length = 13 := by
  simp [sC, bC, vC, h.2.1]
def sV (s : Sl) : Value := .agg (sC s).toArray
theorem eight {l : List Int} (h : l.length = 8) : ∃ a b c d e f g i : Int, l = [a, b, c, d, e, f, g, i] := by
  match l, h with
  | [a, b, c, d, e, f, g, i], _ => exact ⟨a, b, c, d, e, f, g, i, rfl⟩
theorem sV_eight (h a b c d e f g i : Int) (v : Vl) : sV ⟨h, [a, b, c, d, e, f, g, i], v⟩ = .agg #[.int .u8 h, .int .u8 a, .int .u8 b, .int .u8 c, .int .u8 d, .int .u8 e, .int .u8 f, .int .u8 g, .int .u8 i, .int .u8 v.k, .int .i64 v.m, .int .u64 v.n, .int .i64 v.o] := rfl

theorem holds_any (s : Sl) (w : World) (hs : SOk s) : Calls Try.prog 43 #[sV s] w fun e w' => e = .returned (.bool (!vB s.v v0)) ∧ Below w.heap.size w w' := by
  obtain ⟨h, l, v⟩ := s
  obtain ⟨a, b, c, d, e, f, g, i, rfl⟩ := eight hs.2.1
  clear hs
  rw [sV_eight]
  have E := fun W => neq_v v v0 W
  have BL := bld_v0
  show Calls _ _ _ _ fun e w' => e = .returned (.bool (!vB v v0)) ∧ _
  generalize (!vB v v0) = r at E ⊢
  obtain ⟨k, m, n, o⟩ := v
  unfold vV v0 at E
  dsimp only at E ⊢
  go_enter Try.func43, Try.ntmps43
  go_wp2
  go_ret
  exact ⟨rfl, (Below.refl _ _).alloc (Nat.le_refl _) _⟩

end Go.Proofs.Ytjlaenkfjejbkaa
