/-
  Contracts of package insn's small functions, as the landed code has them.
-/
import Derived.Test.YtofomkhadjjobaaDoorChecked
import Derived.Test.YtofomkhadjjobaaDoorInsnM
import Derived.ProofKit
import Derived.Below
import Derived.Outline
import Derived.OneCell
import Derived.Deep.QuietTactic
import Derived.BigQuiet
namespace Go.Proofs.YtofomkhadjjobaaDoor
open Go.ChangeShapes Go.WideShapes Go.ChangeAt Go.RowKit

theorem hid {p : Prop} (h : p) : Hid p := h
theorem below_next {a b c : World} (h : Below a.heap.size a b) (k : Below b.heap.size b c) : Below a.heap.size a c := h.trans (k.mono h.size)
theorem below_drewN (B : Nat) (w : World) (n : Nat) : Below B w (w.drewN n) := ⟨rfl, rfl, rfl, Nat.le_refl _, fun _ _ => rfl⟩
theorem ret_val {a b : Value} (h : a = b) : Ending.returned a = .returned b := by rw [h]

theorem u8_and7 (x : Int) (h0 : 0 ≤ x) (h1 : x < 256) : bits .and .u8 x 7 = x % 8 := by
  obtain ⟨n, rfl⟩ : ∃ n : Nat, x = n := ⟨x.toNat, by omega⟩
  have hn : n < 256 := by omega
  show IntKind.u8.wrap ((BitVec.ofInt 8 (n : Int) &&& BitVec.ofInt 8 (7 : Int)).toNat : Int) = _
  rw [BitVec.toNat_and, BitVec.ofInt_natCast, BitVec.toNat_ofNat, Nat.mod_eq_of_lt (by omega), show (BitVec.ofInt 8 (7 : Int)).toNat = 2 ^ 3 - 1 by decide, Nat.and_two_pow_sub_one_eq_mod, IntKind.wrap_u8]
  omega
theorem u8_and3 (x : Int) (h0 : 0 ≤ x) (h1 : x < 256) : bits .and .u8 x 3 = x % 4 := by
  obtain ⟨n, rfl⟩ : ∃ n : Nat, x = n := ⟨x.toNat, by omega⟩
  have hn : n < 256 := by omega
  show IntKind.u8.wrap ((BitVec.ofInt 8 (n : Int) &&& BitVec.ofInt 8 (3 : Int)).toNat : Int) = _
  rw [BitVec.toNat_and, BitVec.ofInt_natCast, BitVec.toNat_ofNat, Nat.mod_eq_of_lt (by omega), show (BitVec.ofInt 8 (3 : Int)).toNat = 2 ^ 2 - 1 by decide, Nat.and_two_pow_sub_one_eq_mod, IntKind.wrap_u8]
  omega
theorem u8_and15 (x : Int) (h0 : 0 ≤ x) (h1 : x < 256) : bits .and .u8 x 15 = x % 16 := by
  obtain ⟨n, rfl⟩ : ∃ n : Nat, x = n := ⟨x.toNat, by omega⟩
  have hn : n < 256 := by omega
  show IntKind.u8.wrap ((BitVec.ofInt 8 (n : Int) &&& BitVec.ofInt 8 (15 : Int)).toNat : Int) = _
  rw [BitVec.toNat_and, BitVec.ofInt_natCast, BitVec.toNat_ofNat, Nat.mod_eq_of_lt (by omega), show (BitVec.ofInt 8 (15 : Int)).toNat = 2 ^ 4 - 1 by decide, Nat.and_two_pow_sub_one_eq_mod, IntKind.wrap_u8]
  omega
theorem u8_and8_t : ((List.range 256).all fun n => decide (bits .and .u8 (n : Int) 8 = if (n : Int) / 8 % 2 = 1 then 8 else 0)) = true := by kernel_rfl
theorem u8_and8 (x : Int) (h0 : 0 ≤ x) (h1 : x < 256) : bits .and .u8 x 8 = if x / 8 % 2 = 1 then 8 else 0 := by
  have h := u8_and8_t
  rw [List.all_eq_true] at h
  have hx := h x.toNat (List.mem_range.2 (by omega))
  rwa [decide_eq_true_eq, show ((x.toNat : Nat) : Int) = x by omega] at hx

theorem swapRow_any (b : Int) (w : World) : Calls Tryd.prog 73 #[.int .i32 b] w fun e w' => e = .returned (rowV (swapI b)) ∧ Below w.heap.size w w' := by
  by_cases h1 : b = 16
  · subst h1
    go_enter Tryd.func73, Tryd.ntmps73
    go_wp2
    exact bodyPost_ret (v := rowV (swapI 16)) (by simp [results, Tryd.results73, go_sem]; rfl) rfl ⟨rfl, (Below.refl _ _).alloc (Nat.le_refl _) _⟩
  by_cases h2 : b = 32
  · subst h2
    go_enter Tryd.func73, Tryd.ntmps73
    go_wp2
    exact bodyPost_ret (v := rowV (swapI 32)) (by simp [results, Tryd.results73, go_sem]; rfl) rfl ⟨rfl, (Below.refl _ _).alloc (Nat.le_refl _) _⟩
  by_cases h3 : b = 64
  · subst h3
    go_enter Tryd.func73, Tryd.ntmps73
    go_wp2
    exact bodyPost_ret (v := rowV (swapI 64)) (by simp [results, Tryd.results73, go_sem]; rfl) rfl ⟨rfl, (Below.refl _ _).alloc (Nat.le_refl _) _⟩
  have hr : swapI b = r0 := by unfold swapI; rw [if_neg h1, if_neg h2, if_neg h3]
  rw [hr]
  clear hr
  have e1 : (b == 16) = false := by simpa using h1
  have e2 : (b == 32) = false := by simpa using h2
  have e3 : (b == 64) = false := by simpa using h3
  clear h1 h2 h3
  go_enter Tryd.func73, Tryd.ntmps73
  go_wp2
  exact bodyPost_ret (v := rowV r0) (by simp [results, Tryd.results73, go_sem]; rfl) rfl ⟨rfl, (Below.refl _ _).alloc (Nat.le_refl _) _⟩

theorem constRow_any (b : Int) (w : World) : Calls Tryd.prog 74 #[.int .u8 b] w fun e w' => e = .returned (rowV (constI b)) ∧ Below w.heap.size w w' := by
  by_cases h1 : b = 0
  · subst h1
    go_enter Tryd.func74, Tryd.ntmps74
    go_wp2
    exact bodyPost_ret (v := rowV (constI 0)) (by simp [results, Tryd.results74, go_sem]; rfl) rfl ⟨rfl, (Below.refl _ _).alloc (Nat.le_refl _) _⟩
  by_cases h2 : b = 1
  · subst h2
    go_enter Tryd.func74, Tryd.ntmps74
    go_wp2
    exact bodyPost_ret (v := rowV (constI 1)) (by simp [results, Tryd.results74, go_sem]; rfl) rfl ⟨rfl, (Below.refl _ _).alloc (Nat.le_refl _) _⟩
  have hr : constI b = r0 := by unfold constI; rw [if_neg h1, if_neg h2]
  rw [hr]
  clear hr
  have e1 : (b == 0) = false := by simpa using h1
  have e2 : (b == 1) = false := by simpa using h2
  clear h1 h2
  go_enter Tryd.func74, Tryd.ntmps74
  go_wp2
  exact bodyPost_ret (v := rowV r0) (by simp [results, Tryd.results74, go_sem]; rfl) rfl ⟨rfl, (Below.refl _ _).alloc (Nat.le_refl _) _⟩

/-- The table of sizes, as start-up lays it. -/
def SzOk (w : World) : Prop := 0 < w.heap.size ∧ w.cell? ⟨0, 0, none⟩ = some (.int .i64 4) ∧ w.cell? ⟨0, 1, none⟩ = some (.int .i64 2) ∧ w.cell? ⟨0, 2, none⟩ = some (.int .i64 1) ∧ w.cell? ⟨0, 3, none⟩ = some (.int .i64 8)
theorem SzOk.below {a b : World} (h : SzOk a) (hb : Below a.heap.size a b) : SzOk b :=
  ⟨Nat.lt_of_lt_of_le h.1 hb.size, (hb.cell h.1).trans h.2.1, (hb.cell h.1).trans h.2.2.1, (hb.cell h.1).trans h.2.2.2.1, (hb.cell h.1).trans h.2.2.2.2⟩
theorem SzOk.alloc {a : World} (h : SzOk a) (o : Obj) : SzOk (a.alloc o) := h.below ((Below.refl _ _).alloc (Nat.le_refl _) o)
theorem four (x : Int) : x % 4 = 0 ∨ x % 4 = 1 ∨ x % 4 = 2 ∨ x % 4 = 3 := by omega

end Go.Proofs.YtofomkhadjjobaaDoor
