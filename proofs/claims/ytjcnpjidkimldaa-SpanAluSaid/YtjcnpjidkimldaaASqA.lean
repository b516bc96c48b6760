/-
  Contract of the document's mark: what is known of one number behind its bit.
-/
import Derived.Test.YtjcnpjidkimldaaASpR
import Derived.Test.YtjcnpjidkimldaaASqP
namespace Go.Proofs.Ytjcnpjidkimldaa
set_option linter.unusedSimpArgs false
set_option linter.unusedVariables false
set_option maxRecDepth 100000
open Go.ChangeShapes Go.WideShapes Go.ChangeAt Go.RowKit

theorem sq_bit (x : B64) (i : Nat) : bits .and .u64 (ub (x >>> i)) 1 = ((Sq.bitN x.toNat i : Nat) : Int) := by
  have h : bits .and .u64 (ub (x >>> i)) 1 = ub ((x >>> i) &&& 1#64) := ub_and (x >>> i) 1#64
  rw [h]
  unfold ub Sq.bitN
  rw [BitVec.toNat_and, BitVec.toNat_ushiftRight, Nat.shiftRight_eq_div_pow]
  exact congrArg _ (Nat.and_two_pow_sub_one_eq_mod _ 1)
set_option maxHeartbeats 2000000 in
theorem qMark_any (s i x : Nat) (a : Tn) (w : World) (hs : s < 4) (hi : i < 64) (hx : x < 2) :
    Calls Try.prog 80 #[.int .i64 (s : Int), tv a, .int .i64 (i : Int), .int .u64 (x : Int)] w fun e w' =>
      e = .returned (.tuple #[.int .i64 ((if Sq.mkOk s (Sq.bitN a.1.toNat i) (Sq.bitN a.2.toNat i) x = true then Sq.mkS s (Sq.bitN a.1.toNat i) (Sq.bitN a.2.toNat i) x else 0 : Nat) : Int), .bool (Sq.mkOk s (Sq.bitN a.1.toNat i) (Sq.bitN a.2.toNat i) x)]) ∧ Below w.heap.size w w' := by
  have h1 := sq_bit a.1 i
  have h2 := sq_bit a.2 i
  have l1 := Sq.bitN_lt a.1.toNat i
  have l2 := Sq.bitN_lt a.2.toNat i
  have hi' : ((i : Int)).toNat = i := Int.toNat_natCast i
  generalize Sq.bitN a.1.toNat i = L at *
  generalize Sq.bitN a.2.toNat i = M at *
  obtain ⟨v, m⟩ := a
  unfold tv
  dsimp only at h1 h2 ⊢
  have F00 : bits .and .i64 0 1 = 0 := rfl
  have F01 : bits .and .i64 0 2 = 0 := rfl
  have F02 : bits .andNot .i64 0 1 = 0 := rfl
  have F03 : bits .andNot .i64 0 2 = 0 := rfl
  have F10 : bits .and .i64 1 1 = 1 := rfl
  have F11 : bits .and .i64 1 2 = 0 := rfl
  have F12 : bits .andNot .i64 1 1 = 0 := rfl
  have F13 : bits .andNot .i64 1 2 = 1 := rfl
  have F20 : bits .and .i64 2 1 = 0 := rfl
  have F21 : bits .and .i64 2 2 = 2 := rfl
  have F22 : bits .andNot .i64 2 1 = 2 := rfl
  have F23 : bits .andNot .i64 2 2 = 0 := rfl
  have F30 : bits .and .i64 3 1 = 1 := rfl
  have F31 : bits .and .i64 3 2 = 2 := rfl
  have F32 : bits .andNot .i64 3 1 = 2 := rfl
  have F33 : bits .andNot .i64 3 2 = 1 := rfl
  obtain ⟨R, HR⟩ : ∃ R : Value, R = .tuple #[.int .i64 ((if Sq.mkOk s L M x = true then Sq.mkS s L M x else 0 : Nat) : Int), .bool (Sq.mkOk s L M x)] := ⟨_, rfl⟩
  rw [← HR]
  have HR' := hid HR
  clear HR
  obtain rfl | rfl | rfl | rfl : s = 0 ∨ s = 1 ∨ s = 2 ∨ s = 3 := by omega
  all_goals obtain rfl | rfl : x = 0 ∨ x = 1 := by omega
  all_goals obtain rfl | rfl : L = 0 ∨ L = 1 := by omega
  all_goals obtain rfl | rfl : M = 0 ∨ M = 1 := by omega
  all_goals (
    go_enter Try.func80, Try.ntmps80
    go_wp2
    refine bodyPost_ret (v := R) ?_ rfl ⟨rfl, (Below.refl _ _).alloc (Nat.le_refl _) _⟩
    rw [HR'.out]
    simp [results, Try.results80, go_sem]
    try first | rfl | exact ⟨rfl, rfl⟩)
end Go.Proofs.Ytjcnpjidkimldaa
