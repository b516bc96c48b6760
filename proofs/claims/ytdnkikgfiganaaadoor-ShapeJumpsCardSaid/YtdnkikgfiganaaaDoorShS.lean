/-
  Small functions of package shape and of the document's own answer: maps, helpers, targets.
-/
import Derived.Test.YtdnkikgfiganaaaDoorInsnH
namespace Go.Proofs.YtdnkikgfiganaaaDoor
set_option linter.unusedSimpArgs false
set_option linter.unusedVariables false
open Go.ChangeShapes Go.WideShapes Go.ChangeAt Go.RowKit

structure M4 where
  kind : Int
  key : Int
  value : Int
  cap : Int
deriving DecidableEq
def M4.V (m : M4) : Value := .agg #[.int .i64 m.kind, .int .i64 m.key, .int .i64 m.value, .int .i64 m.cap]
def upB (n most : Int) : Bool := decide (1 ≤ n) && decide (n ≤ most)
def mayB (m : M4) : Bool := ((m.kind == 1 && m.key == 4) || m.kind == 2 || m.kind == 3) && upB m.key 16 && upB m.value 64 && upB m.cap 64

theorem upTo_is (n most : Int) (b : Bool) (hb : upB n most = b) (w : World) : Calls Tryd.prog 60 #[.int .i64 n, .int .i64 most] w fun e w' => e = .returned (.bool b) ∧ w = w' := by
  subst hb
  unfold upB
  cases h : decide (1 ≤ n)
  · go_enter Tryd.func60, Tryd.ntmps60
    go_wp2
    go_ret
    exact ⟨rfl, rfl⟩
  · go_enter Tryd.func60, Tryd.ntmps60
    go_wp2
    go_ret
    exact ⟨rfl, rfl⟩

theorem target_I (at_ op dst src off imm : Int) (w : World) (h0 : 0 ≤ at_) (h1 : at_ < 4611686018427387904) (o0 : -32768 ≤ off) (o1 : off < 32768) : Calls Tryd.prog 23 #[.int .i64 at_, .agg #[.int .u8 op, .int .u8 dst, .int .u8 src, .int .i16 off, .int .i32 imm]] w fun e w' => e = .returned (.int .i64 (at_ + 1 + off)) ∧ Below w.heap.size w w' := by
  go_enter Tryd.func23, Tryd.ntmps23
  go_wp2
  go_ret
  exact ⟨rfl, (Below.refl _ _).alloc (Nat.le_refl _) _⟩
theorem rtarget_I (at_ op dst src off imm : Int) (w : World) (h0 : 0 ≤ at_) (h1 : at_ < 4611686018427387904) (o0 : -32768 ≤ off) (o1 : off < 32768) : Calls Tryd.prog 49 #[.int .i64 at_, .agg #[.int .u8 op, .int .u8 dst, .int .u8 src, .int .i16 off, .int .i32 imm]] w fun e w' => e = .returned (.int .i64 (at_ + 1 + off)) ∧ Below w.heap.size w w' := by
  go_enter Tryd.func49, Tryd.ntmps49
  go_wp2
  go_ret
  exact ⟨rfl, (Below.refl _ _).alloc (Nat.le_refl _) _⟩

def helpB (n : Int) : Bool := n == 1 || n == 2 || n == 3 || n == 5 || n == 7
theorem helper_is (n : Int) (w : World) : Calls Tryd.prog 50 #[.int .i32 n] w fun e w' => e = .returned (.bool (helpB n)) ∧ w = w' := by
  unfold helpB
  cases e1 : (n == 1)
  · cases e2 : (n == 2)
    · cases e3 : (n == 3)
      · cases e5 : (n == 5)
        · cases e7 : (n == 7)
          all_goals
            go_enter Tryd.func50, Tryd.ntmps50
            go_wp2
            go_ret
            exact ⟨rfl, rfl⟩
        · go_enter Tryd.func50, Tryd.ntmps50
          go_wp2
          go_ret
          exact ⟨rfl, rfl⟩
      · go_enter Tryd.func50, Tryd.ntmps50
        go_wp2
        go_ret
        exact ⟨rfl, rfl⟩
    · go_enter Tryd.func50, Tryd.ntmps50
      go_wp2
      go_ret
      exact ⟨rfl, rfl⟩
  · go_enter Tryd.func50, Tryd.ntmps50
    go_wp2
    go_ret
    exact ⟨rfl, rfl⟩
theorem rhelper_is (n : Int) (w : World) : Calls Tryd.prog 66 #[.int .i32 n] w fun e w' => e = .returned (.bool (helpB n)) ∧ w = w' := by
  unfold helpB
  cases e1 : (n == 1)
  · cases e2 : (n == 2)
    · cases e3 : (n == 3)
      · cases e5 : (n == 5)
        · go_enter Tryd.func66, Tryd.ntmps66
          go_wp2
          go_ret
          exact ⟨rfl, rfl⟩
        · go_enter Tryd.func66, Tryd.ntmps66
          go_wp2
          go_ret
          exact ⟨rfl, rfl⟩
      · go_enter Tryd.func66, Tryd.ntmps66
        go_wp2
        go_ret
        exact ⟨rfl, rfl⟩
    · go_enter Tryd.func66, Tryd.ntmps66
      go_wp2
      go_ret
      exact ⟨rfl, rfl⟩
  · go_enter Tryd.func66, Tryd.ntmps66
    go_wp2
    go_ret
    exact ⟨rfl, rfl⟩

theorem mayBe_I (m : M4) (w : World) : Calls Tryd.prog 41 #[m.V] w fun e w' => e = .returned (.bool (mayB m)) ∧ Below w.heap.size w w' := by
  obtain ⟨kind, key, value, cap⟩ := m
  unfold mayB M4.V
  dsimp only
  cases k1 : (kind == 1)
  · cases k2 : (kind == 2)
    · cases k3 : (kind == 3)
      · go_enter Tryd.func41, Tryd.ntmps41
        go_wp2
        go_ret
        exact ⟨rfl, (Below.refl _ _).alloc (Nat.le_refl _) _⟩
      · cases u1 : upB key 16
        · have U1 := hid u1
          clear u1
          go_enter Tryd.func41, Tryd.ntmps41
          go_wp2_with fail
          refine (upTo_is _ _ false U1.out _).mono ?_
          rintro e w' ⟨rfl, rfl⟩
          go_wp2
          go_ret
          exact ⟨rfl, (Below.refl _ _).alloc (Nat.le_refl _) _⟩
        · cases u2 : upB value 64
          · have U1 := hid u1
            have U2 := hid u2
            clear u1 u2
            go_enter Tryd.func41, Tryd.ntmps41
            go_wp2_with fail
            refine (upTo_is _ _ true U1.out _).mono ?_
            rintro e w' ⟨rfl, rfl⟩
            go_wp2_with fail
            refine (upTo_is _ _ false U2.out _).mono ?_
            rintro e w' ⟨rfl, rfl⟩
            go_wp2
            go_ret
            exact ⟨rfl, (Below.refl _ _).alloc (Nat.le_refl _) _⟩
          · cases u3 : upB cap 64
            · have U1 := hid u1
              have U2 := hid u2
              have U3 := hid u3
              clear u1 u2 u3
              go_enter Tryd.func41, Tryd.ntmps41
              go_wp2_with fail
              refine (upTo_is _ _ true U1.out _).mono ?_
              rintro e w' ⟨rfl, rfl⟩
              go_wp2_with fail
              refine (upTo_is _ _ true U2.out _).mono ?_
              rintro e w' ⟨rfl, rfl⟩
              go_wp2_with fail
              refine (upTo_is _ _ false U3.out _).mono ?_
              rintro e w' ⟨rfl, rfl⟩
              go_wp2
              go_ret
              exact ⟨rfl, (Below.refl _ _).alloc (Nat.le_refl _) _⟩
            · have U1 := hid u1
              have U2 := hid u2
              have U3 := hid u3
              clear u1 u2 u3
              go_enter Tryd.func41, Tryd.ntmps41
              go_wp2_with fail
              refine (upTo_is _ _ true U1.out _).mono ?_
              rintro e w' ⟨rfl, rfl⟩
              go_wp2_with fail
              refine (upTo_is _ _ true U2.out _).mono ?_
              rintro e w' ⟨rfl, rfl⟩
              go_wp2_with fail
              refine (upTo_is _ _ true U3.out _).mono ?_
              rintro e w' ⟨rfl, rfl⟩
              go_wp2
              go_ret
              exact ⟨rfl, (Below.refl _ _).alloc (Nat.le_refl _) _⟩
    · cases u1 : upB key 16
      · have U1 := hid u1
        clear u1
        go_enter Tryd.func41, Tryd.ntmps41
        go_wp2_with fail
        refine (upTo_is _ _ false U1.out _).mono ?_
        rintro e w' ⟨rfl, rfl⟩
        go_wp2
        go_ret
        exact ⟨rfl, (Below.refl _ _).alloc (Nat.le_refl _) _⟩
      · cases u2 : upB value 64
        · have U1 := hid u1
          have U2 := hid u2
          clear u1 u2
          go_enter Tryd.func41, Tryd.ntmps41
          go_wp2_with fail
          refine (upTo_is _ _ true U1.out _).mono ?_
          rintro e w' ⟨rfl, rfl⟩
          go_wp2_with fail
          refine (upTo_is _ _ false U2.out _).mono ?_
          rintro e w' ⟨rfl, rfl⟩
          go_wp2
          go_ret
          exact ⟨rfl, (Below.refl _ _).alloc (Nat.le_refl _) _⟩
        · cases u3 : upB cap 64
          · have U1 := hid u1
            have U2 := hid u2
            have U3 := hid u3
            clear u1 u2 u3
            go_enter Tryd.func41, Tryd.ntmps41
            go_wp2_with fail
            refine (upTo_is _ _ true U1.out _).mono ?_
            rintro e w' ⟨rfl, rfl⟩
            go_wp2_with fail
            refine (upTo_is _ _ true U2.out _).mono ?_
            rintro e w' ⟨rfl, rfl⟩
            go_wp2_with fail
            refine (upTo_is _ _ false U3.out _).mono ?_
            rintro e w' ⟨rfl, rfl⟩
            go_wp2
            go_ret
            exact ⟨rfl, (Below.refl _ _).alloc (Nat.le_refl _) _⟩
          · have U1 := hid u1
            have U2 := hid u2
            have U3 := hid u3
            clear u1 u2 u3
            go_enter Tryd.func41, Tryd.ntmps41
            go_wp2_with fail
            refine (upTo_is _ _ true U1.out _).mono ?_
            rintro e w' ⟨rfl, rfl⟩
            go_wp2_with fail
            refine (upTo_is _ _ true U2.out _).mono ?_
            rintro e w' ⟨rfl, rfl⟩
            go_wp2_with fail
            refine (upTo_is _ _ true U3.out _).mono ?_
            rintro e w' ⟨rfl, rfl⟩
            go_wp2
            go_ret
            exact ⟨rfl, (Below.refl _ _).alloc (Nat.le_refl _) _⟩
  · cases k4 : (key == 4)
    · cases k2 : (kind == 2)
      · cases k3 : (kind == 3)
        · go_enter Tryd.func41, Tryd.ntmps41
          go_wp2
          go_ret
          exact ⟨rfl, (Below.refl _ _).alloc (Nat.le_refl _) _⟩
        · exact absurd ((beq_iff_eq.1 k1).symm.trans (beq_iff_eq.1 k3)) (by decide)
      · exact absurd ((beq_iff_eq.1 k1).symm.trans (beq_iff_eq.1 k2)) (by decide)
    · cases u1 : upB key 16
      · have U1 := hid u1
        clear u1
        go_enter Tryd.func41, Tryd.ntmps41
        go_wp2_with fail
        refine (upTo_is _ _ false U1.out _).mono ?_
        rintro e w' ⟨rfl, rfl⟩
        go_wp2
        go_ret
        exact ⟨rfl, (Below.refl _ _).alloc (Nat.le_refl _) _⟩
      · cases u2 : upB value 64
        · have U1 := hid u1
          have U2 := hid u2
          clear u1 u2
          go_enter Tryd.func41, Tryd.ntmps41
          go_wp2_with fail
          refine (upTo_is _ _ true U1.out _).mono ?_
          rintro e w' ⟨rfl, rfl⟩
          go_wp2_with fail
          refine (upTo_is _ _ false U2.out _).mono ?_
          rintro e w' ⟨rfl, rfl⟩
          go_wp2
          go_ret
          exact ⟨rfl, (Below.refl _ _).alloc (Nat.le_refl _) _⟩
        · cases u3 : upB cap 64
          · have U1 := hid u1
            have U2 := hid u2
            have U3 := hid u3
            clear u1 u2 u3
            go_enter Tryd.func41, Tryd.ntmps41
            go_wp2_with fail
            refine (upTo_is _ _ true U1.out _).mono ?_
            rintro e w' ⟨rfl, rfl⟩
            go_wp2_with fail
            refine (upTo_is _ _ true U2.out _).mono ?_
            rintro e w' ⟨rfl, rfl⟩
            go_wp2_with fail
            refine (upTo_is _ _ false U3.out _).mono ?_
            rintro e w' ⟨rfl, rfl⟩
            go_wp2
            go_ret
            exact ⟨rfl, (Below.refl _ _).alloc (Nat.le_refl _) _⟩
          · have U1 := hid u1
            have U2 := hid u2
            have U3 := hid u3
            clear u1 u2 u3
            go_enter Tryd.func41, Tryd.ntmps41
            go_wp2_with fail
            refine (upTo_is _ _ true U1.out _).mono ?_
            rintro e w' ⟨rfl, rfl⟩
            go_wp2_with fail
            refine (upTo_is _ _ true U2.out _).mono ?_
            rintro e w' ⟨rfl, rfl⟩
            go_wp2_with fail
            refine (upTo_is _ _ true U3.out _).mono ?_
            rintro e w' ⟨rfl, rfl⟩
            go_wp2
            go_ret
            exact ⟨rfl, (Below.refl _ _).alloc (Nat.le_refl _) _⟩

theorem may_no {m : M4} (h : m.kind < 1 ∨ 3 < m.kind ∨ m.key < 1 ∨ 16 < m.key ∨ m.value < 1 ∨ 64 < m.value ∨ m.cap < 1 ∨ 64 < m.cap) : mayB m = false := by
  cases hb : mayB m
  · rfl
  · simp only [mayB, upB, Bool.and_eq_true, Bool.or_eq_true, beq_iff_eq, decide_eq_true_eq] at hb
    omega
theorem may_yes {m : M4} (h : ¬(m.kind < 1 ∨ 3 < m.kind ∨ m.key < 1 ∨ 16 < m.key ∨ m.value < 1 ∨ 64 < m.value ∨ m.cap < 1 ∨ 64 < m.cap)) : mayB m = (!(m.kind == 1) || m.key == 4) := by
  have h1 : upB m.key 16 = true := by simp only [upB, Bool.and_eq_true, decide_eq_true_eq]; omega
  have h2 : upB m.value 64 = true := by simp only [upB, Bool.and_eq_true, decide_eq_true_eq]; omega
  have h3 : upB m.cap 64 = true := by simp only [upB, Bool.and_eq_true, decide_eq_true_eq]; omega
  unfold mayB
  rw [h1, h2, h3]
  rcases (show m.kind = 1 ∨ m.kind = 2 ∨ m.kind = 3 by omega) with e | e | e <;> rw [e] <;> cases (m.key == 4) <;> rfl
theorem may_I (m : M4) (w : World) : Calls Tryd.prog 45 #[m.V] w fun e w' => e = .returned (.bool (mayB m)) ∧ Below w.heap.size w w' := by
  by_cases a1 : m.kind < 1
  · rw [may_no (by omega)]
    obtain ⟨kind, key, value, cap⟩ := m
    unfold M4.V
    dsimp only at *
    have da1 : decide (kind < 1) = true := by simpa using a1
    clear a1
    go_enter Tryd.func45, Tryd.ntmps45
    go_wp2
    go_ret
    exact ⟨rfl, (Below.refl _ _).alloc (Nat.le_refl _) _⟩
  by_cases a2 : 3 < m.kind
  · rw [may_no (by omega)]
    obtain ⟨kind, key, value, cap⟩ := m
    unfold M4.V
    dsimp only at *
    have da1 : decide (kind < 1) = false := by simpa using a1
    have da2 : decide (3 < kind) = true := by simpa using a2
    clear a1 a2
    go_enter Tryd.func45, Tryd.ntmps45
    go_wp2
    go_ret
    exact ⟨rfl, (Below.refl _ _).alloc (Nat.le_refl _) _⟩
  by_cases a3 : m.key < 1
  · rw [may_no (by omega)]
    obtain ⟨kind, key, value, cap⟩ := m
    unfold M4.V
    dsimp only at *
    have da1 : decide (kind < 1) = false := by simpa using a1
    have da2 : decide (3 < kind) = false := by simpa using a2
    have da3 : decide (key < 1) = true := by simpa using a3
    clear a1 a2 a3
    go_enter Tryd.func45, Tryd.ntmps45
    go_wp2
    go_ret
    exact ⟨rfl, (Below.refl _ _).alloc (Nat.le_refl _) _⟩
  by_cases a4 : 16 < m.key
  · rw [may_no (by omega)]
    obtain ⟨kind, key, value, cap⟩ := m
    unfold M4.V
    dsimp only at *
    have da1 : decide (kind < 1) = false := by simpa using a1
    have da2 : decide (3 < kind) = false := by simpa using a2
    have da3 : decide (key < 1) = false := by simpa using a3
    have da4 : decide (16 < key) = true := by simpa using a4
    clear a1 a2 a3 a4
    go_enter Tryd.func45, Tryd.ntmps45
    go_wp2
    go_ret
    exact ⟨rfl, (Below.refl _ _).alloc (Nat.le_refl _) _⟩
  by_cases a5 : m.value < 1
  · rw [may_no (by omega)]
    obtain ⟨kind, key, value, cap⟩ := m
    unfold M4.V
    dsimp only at *
    have da1 : decide (kind < 1) = false := by simpa using a1
    have da2 : decide (3 < kind) = false := by simpa using a2
    have da3 : decide (key < 1) = false := by simpa using a3
    have da4 : decide (16 < key) = false := by simpa using a4
    have da5 : decide (value < 1) = true := by simpa using a5
    clear a1 a2 a3 a4 a5
    go_enter Tryd.func45, Tryd.ntmps45
    go_wp2
    go_ret
    exact ⟨rfl, (Below.refl _ _).alloc (Nat.le_refl _) _⟩
  by_cases a6 : 64 < m.value
  · rw [may_no (by omega)]
    obtain ⟨kind, key, value, cap⟩ := m
    unfold M4.V
    dsimp only at *
    have da1 : decide (kind < 1) = false := by simpa using a1
    have da2 : decide (3 < kind) = false := by simpa using a2
    have da3 : decide (key < 1) = false := by simpa using a3
    have da4 : decide (16 < key) = false := by simpa using a4
    have da5 : decide (value < 1) = false := by simpa using a5
    have da6 : decide (64 < value) = true := by simpa using a6
    clear a1 a2 a3 a4 a5 a6
    go_enter Tryd.func45, Tryd.ntmps45
    go_wp2
    go_ret
    exact ⟨rfl, (Below.refl _ _).alloc (Nat.le_refl _) _⟩
  by_cases a7 : m.cap < 1
  · rw [may_no (by omega)]
    obtain ⟨kind, key, value, cap⟩ := m
    unfold M4.V
    dsimp only at *
    have da1 : decide (kind < 1) = false := by simpa using a1
    have da2 : decide (3 < kind) = false := by simpa using a2
    have da3 : decide (key < 1) = false := by simpa using a3
    have da4 : decide (16 < key) = false := by simpa using a4
    have da5 : decide (value < 1) = false := by simpa using a5
    have da6 : decide (64 < value) = false := by simpa using a6
    have da7 : decide (cap < 1) = true := by simpa using a7
    clear a1 a2 a3 a4 a5 a6 a7
    go_enter Tryd.func45, Tryd.ntmps45
    go_wp2
    go_ret
    exact ⟨rfl, (Below.refl _ _).alloc (Nat.le_refl _) _⟩
  by_cases a8 : 64 < m.cap
  · rw [may_no (by omega)]
    obtain ⟨kind, key, value, cap⟩ := m
    unfold M4.V
    dsimp only at *
    have da1 : decide (kind < 1) = false := by simpa using a1
    have da2 : decide (3 < kind) = false := by simpa using a2
    have da3 : decide (key < 1) = false := by simpa using a3
    have da4 : decide (16 < key) = false := by simpa using a4
    have da5 : decide (value < 1) = false := by simpa using a5
    have da6 : decide (64 < value) = false := by simpa using a6
    have da7 : decide (cap < 1) = false := by simpa using a7
    have da8 : decide (64 < cap) = true := by simpa using a8
    clear a1 a2 a3 a4 a5 a6 a7 a8
    go_enter Tryd.func45, Tryd.ntmps45
    go_wp2
    go_ret
    exact ⟨rfl, (Below.refl _ _).alloc (Nat.le_refl _) _⟩
  rw [may_yes (by omega)]
  obtain ⟨kind, key, value, cap⟩ := m
  unfold M4.V
  dsimp only at *
  have da1 : decide (kind < 1) = false := by simpa using a1
  have da2 : decide (3 < kind) = false := by simpa using a2
  have da3 : decide (key < 1) = false := by simpa using a3
  have da4 : decide (16 < key) = false := by simpa using a4
  have da5 : decide (value < 1) = false := by simpa using a5
  have da6 : decide (64 < value) = false := by simpa using a6
  have da7 : decide (cap < 1) = false := by simpa using a7
  have da8 : decide (64 < cap) = false := by simpa using a8
  clear a1 a2 a3 a4 a5 a6 a7 a8
  cases k1 : (kind == 1)
  · have k2 : (kind != 1) = true := by simpa using k1
    go_enter Tryd.func45, Tryd.ntmps45
    go_wp2
    go_ret
    exact ⟨rfl, (Below.refl _ _).alloc (Nat.le_refl _) _⟩
  · have k2 : (kind != 1) = false := by simpa using k1
    go_enter Tryd.func45, Tryd.ntmps45
    go_wp2
    go_ret
    exact ⟨rfl, (Below.refl _ _).alloc (Nat.le_refl _) _⟩
end Go.Proofs.YtdnkikgfiganaaaDoor
