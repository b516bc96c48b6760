/-
  Plain: values, slots and frames of the stack; what mem's calls answer of them. Contracts of package mem's small functions, as the landed code has them. Contracts of May, onStack, bitsOf, as the landed code has them; the comparison of two values. Contracts of onStack, bitsOf, holdsAddress, as the landed code has them. Contracts of number, lay, part, as the landed code has them.
-/
import Derived.Test.YtodmikjpmcabiaaChecked
import Derived.ProofKit
import Derived.WalkKit
import Derived.Below
import Derived.Outline
import Derived.OneCell
import Derived.Deep.QuietTactic
import Derived.Deep.MidRow
import Derived.Deep.WholeRow
import Derived.BigQuiet
namespace Go.Proofs.Ytodmikjpmcabiaa.Me
set_option linter.unusedSimpArgs false
set_option linter.unusedVariables false
set_option maxRecDepth 100000

/-- A value: kind, map, number, offset. -/
structure Vl where
  k : Int
  m : Int
  n : Int
  o : Int
deriving DecidableEq
def v0 : Vl := ⟨0, 0, 0, 0⟩
def VOk (v : Vl) : Prop := (0 ≤ v.k ∧ v.k < 256) ∧ (-9223372036854775808 ≤ v.m ∧ v.m < 9223372036854775808) ∧ (0 ≤ v.n ∧ v.n < 18446744073709551616) ∧ (-9223372036854775808 ≤ v.o ∧ v.o < 9223372036854775808)
def mayB (v : Vl) : Bool :=
  if v.k = 0 then v.m == 0 && (v.n == 0 && v.o == 0)
  else if v.k = 1 then v.m == 0 && v.o == 0
  else if v.k = 2 ∨ v.k = 3 ∨ v.k = 4 then v.m == 0 && v.n == 0
  else if v.k = 5 then decide (0 ≤ v.m) && (v.n == 0 && v.o == 0)
  else if v.k = 6 then decide (0 ≤ v.m) && decide (1 ≤ v.n)
  else false
def adrB (v : Vl) : Bool := v.k != 0 && v.k != 1
theorem v0_ok : VOk v0 := by unfold VOk v0; simp

/-- A slot: which bytes hold something, the bytes, the address. -/
structure Sl where
  h : Int
  b : List Int
  v : Vl
deriving DecidableEq
def z8 : List Int := [0, 0, 0, 0, 0, 0, 0, 0]
def s0 : Sl := ⟨0, z8, v0⟩
def SOk (s : Sl) : Prop := (0 ≤ s.h ∧ s.h < 256) ∧ s.b.length = 8 ∧ (∀ x ∈ s.b, 0 ≤ x ∧ x < 256) ∧ VOk s.v
theorem s0_ok : SOk s0 := ⟨⟨by decide, by decide⟩, rfl, by intro x hx; simp [s0, z8] at hx; omega, v0_ok⟩
def hasB (h : Int) (j : Nat) : Bool := h / 2 ^ j % 2 == 1
def byteB (s : Sl) (j : Nat) : Bool := s.b.getD j 0 == 0 || hasB s.h j
def rightS (s : Sl) : Bool :=
  if s.v = v0 then (List.range 8).all (byteB s)
  else mayB s.v && (adrB s.v && (s.h == 255 && s.b == z8))
def sizeB (n : Int) : Bool := n == 1 || (n == 2 || (n == 4 || n == 8))
theorem size_cases {n : Int} (h : sizeB n = true) : n = 1 ∨ n = 2 ∨ n = 4 ∨ n = 8 := by simpa [sizeB] using h
def withinB (room off size : Int) : Bool := decide (0 ≤ off) && decide (off ≤ room - size)
/-- The number of some bytes, the first one the lowest; the bytes of a number. -/
def numL : List Int → Int
  | [] => 0
  | x :: r => x + 256 * numL r
def layL (n : Int) : Nat → List Int
  | 0 => []
  | s + 1 => n % 256 :: layL (n / 256) s
theorem numL_snoc (l : List Int) (x : Int) : numL (l ++ [x]) = numL l + x * 256 ^ l.length := by
  induction l with
  | nil => simp [numL]
  | cons a l ih =>
    rw [List.cons_append, numL, ih, numL, List.length_cons, Int.pow_succ, Int.mul_add, Int.add_assoc]
    congr 2
    rw [← Int.mul_assoc, Int.mul_comm 256 x, Int.mul_assoc, Int.mul_comm 256 (256 ^ _)]
theorem numL_bd (l : List Int) (h : ∀ x ∈ l, 0 ≤ x ∧ x < 256) : 0 ≤ numL l ∧ numL l < 256 ^ l.length := by
  induction l with
  | nil => simp [numL]
  | cons a l ih =>
    have ha := h a (List.mem_cons_self ..)
    have hl := ih (fun x hx => h x (List.mem_cons_of_mem _ hx))
    rw [numL, List.length_cons, Int.pow_succ]
    omega
/-- Some cells of a list put in the place of others. -/
def putL (l : List Int) (i : Nat) (xs : List Int) : List Int := l.take i ++ (xs ++ l.drop (i + xs.length))
def partL (l : List Int) (i s : Nat) : List Int := (l.drop i).take s
/-- The bits of Have that speak of some bytes. -/
def bitsI (i s : Nat) : Int := (2 ^ s - 1) * 2 ^ i % 256
def orB (h : Int) (i s : Nat) : Int := bits .or .u8 h (bitsI i s)

def baseS (s : Sl) : Sl := if s.v = v0 then s else s0
def numS (s : Sl) (i n : Nat) (x : Int) : Sl := ⟨orB (baseS s).h i n, putL (baseS s).b i (layL x n), v0⟩
/-- Frames. -/
def f0 : Nat → Sl := fun _ => s0
def rightF (F : Nat → Sl) : Bool := (List.range 64).all fun k => rightS (F k)
def FOk (F : Nat → Sl) : Prop := ∀ k, k < 64 → SOk (F k)
theorem f0_ok : FOk f0 := fun _ _ => s0_ok
def getE (len : Nat) (off size : Int) : Int := if sizeB size = false then 1 else if withinB len off size = false then 42 else 0
def getN (l : List Int) (off size : Int) : Int := if getE l.length off size = 0 then numL (partL l off.toNat size.toNat) else 0

end Go.Proofs.Ytodmikjpmcabiaa.Me

namespace Go.Proofs.Ytodmikjpmcabiaa.Me
set_option linter.unusedSimpArgs false
set_option linter.unusedVariables false
set_option maxRecDepth 100000
open Go.ChangeShapes Go.WideShapes Go.ChangeAt Go.RowKit

theorem hid {p : Prop} (h : p) : Hid p := h
theorem below_next {a b c : World} (h : Below a.heap.size a b) (k : Below b.heap.size b c) : Below a.heap.size a c := h.trans (k.mono h.size)
theorem ret_val {a b : Value} (h : a = b) : Ending.returned a = .returned b := by rw [h]

def vC (v : Vl) : List Value := [.int .u8 v.k, .int .i64 v.m, .int .u64 v.n, .int .i64 v.o]
def vV (v : Vl) : Value := .agg #[.int .u8 v.k, .int .i64 v.m, .int .u64 v.n, .int .i64 v.o]

theorem isSize_any (n : Int) (w : World) : Calls Try.prog 157 #[.int .i64 n] w fun e w' => e = .returned (.bool (sizeB n)) ∧ w = w' := by
  unfold sizeB
  cases h1 : (n == 1) <;> cases h2 : (n == 2) <;> cases h3 : (n == 4) <;> cases h4 : (n == 8) <;>
  (go_enter Try.func157, Try.ntmps157
   go_wp2
   go_ret
   exact ⟨rfl, rfl⟩)

theorem within_any (r off n : Int) (w : World) (hr : 0 ≤ r ∧ r < 9223372036854775808) (hn : 1 ≤ n ∧ n ≤ 8) (ho : -9223372036854775808 ≤ off ∧ off < 9223372036854775808) :
    Calls Try.prog 158 #[.int .i64 r, .int .i64 off, .int .i64 n] w fun e w' => e = .returned (.bool (withinB r off n)) ∧ w = w' := by
  unfold withinB
  obtain ⟨hr0, hr1⟩ := hr
  obtain ⟨hn0, hn1⟩ := hn
  obtain ⟨ho0, ho1⟩ := ho
  cases h1 : decide (0 ≤ off) <;> cases h2 : decide (off ≤ r - n) <;>
  (go_enter Try.func158, Try.ntmps158
   go_wp2
   go_ret
   exact ⟨rfl, rfl⟩)

theorem isAddress_any (v : Vl) (w : World) : Calls Try.prog 156 #[vV v] w fun e w' => e = .returned (.bool (adrB v)) ∧ Below w.heap.size w w' := by
  unfold adrB vV
  cases h1 : (v.k != 0) <;> cases h2 : (v.k != 1) <;>
  (go_enter Try.func156, Try.ntmps156
   go_wp2
   go_ret
   exact ⟨rfl, (Below.refl _ _).alloc (Nat.le_refl _) _⟩)

end Go.Proofs.Ytodmikjpmcabiaa.Me

namespace Go.Proofs.Ytodmikjpmcabiaa.Me
set_option linter.unusedSimpArgs false
set_option linter.unusedVariables false
set_option maxRecDepth 100000
open Go.ChangeShapes Go.WideShapes Go.ChangeAt Go.RowKit

def vB (a b : Vl) : Bool := a.k == b.k && (a.m == b.m && (a.n == b.n && a.o == b.o))
theorem vB_iff (a b : Vl) : vB a b = true ↔ a = b := by
  cases a; cases b
  simp [vB]
theorem eq_v (a b : Vl) (W : World) : (binOp .eql 66 (vV a) (vV b)).run Try.prog W = .ok (.bool (vB a b)) W := by
  unfold vB vV
  cases h0 : (a.k == b.k) <;> cases h1 : (a.m == b.m) <;> cases h2 : (a.n == b.n) <;> cases h3 : (a.o == b.o) <;> simp [go_sem, h0, h1, h2, h3]
theorem neq_v (a b : Vl) (W : World) : (binOp .neq 66 (vV a) (vV b)).run Try.prog W = .ok (.bool (!vB a b)) W := by
  unfold vB vV
  cases h0 : (a.k == b.k) <;> cases h1 : (a.m == b.m) <;> cases h2 : (a.n == b.n) <;> cases h3 : (a.o == b.o) <;> simp [go_sem, h0, h1, h2, h3]

theorem bld_v0 (W : World) : (Instr.build 66 #[]).run Try.prog W = .ok (.agg #[.int .u8 0, .int .i64 0, .int .u64 0, .int .i64 0]) W := by kernel_rfl
theorem bld_v01 (k m : Int) (W : World) : (Instr.build 66 #[(0, .int .u8 k), (1, .int .i64 m)]).run Try.prog W = .ok (.agg #[.int .u8 k, .int .i64 m, .int .u64 0, .int .i64 0]) W := by kernel_rfl
theorem bld_v02 (k n : Int) (W : World) : (Instr.build 66 #[(0, .int .u8 k), (2, .int .u64 n)]).run Try.prog W = .ok (.agg #[.int .u8 k, .int .i64 0, .int .u64 n, .int .i64 0]) W := by kernel_rfl
theorem bld_v03 (k o : Int) (W : World) : (Instr.build 66 #[(0, .int .u8 k), (3, .int .i64 o)]).run Try.prog W = .ok (.agg #[.int .u8 k, .int .i64 0, .int .u64 0, .int .i64 o]) W := by kernel_rfl

theorem may_any (v : Vl) (w : World) : Calls Try.prog 120 #[vV v] w fun e w' => e = .returned (.bool (mayB v)) ∧ Below w.heap.size w w' := by
  obtain ⟨k, m, n, o⟩ := v
  have hB : Below w.heap.size w (w.alloc (.cells #[.int .u8 k, .int .i64 m, .int .u64 n, .int .i64 o] 66)) := (Below.refl _ _).alloc (Nat.le_refl _) _
  by_cases h0 : k = 0
  · subst h0
    have E := fun W => eq_v ⟨0, m, n, o⟩ ⟨0, 0, 0, 0⟩ W
    have BL := bld_v0
    have hv : mayB ⟨0, m, n, o⟩ = vB ⟨0, m, n, o⟩ ⟨0, 0, 0, 0⟩ := by simp [mayB, vB]
    rw [hv]
    clear hv
    generalize vB ⟨0, m, n, o⟩ ⟨0, 0, 0, 0⟩ = r at E ⊢
    unfold vV at E ⊢
    dsimp only at E ⊢
    go_enter Try.func120, Try.ntmps120
    go_wp2
    go_ret
    exact ⟨rfl, hB⟩
  have e0 : (k == 0) = false := by simpa using h0
  by_cases h1 : k = 1
  · subst h1
    have E := fun W => eq_v ⟨1, m, n, o⟩ ⟨1, 0, n, 0⟩ W
    have BL := bld_v02 1 n
    have hv : mayB ⟨1, m, n, o⟩ = vB ⟨1, m, n, o⟩ ⟨1, 0, n, 0⟩ := by simp [mayB, vB]
    rw [hv]
    clear hv
    generalize vB ⟨1, m, n, o⟩ ⟨1, 0, n, 0⟩ = r at E ⊢
    unfold vV at E ⊢
    dsimp only at E ⊢
    go_enter Try.func120, Try.ntmps120
    go_wp2
    go_ret
    exact ⟨rfl, hB⟩
  have e1 : (k == 1) = false := by simpa using h1
  by_cases h2 : k = 2 ∨ k = 3 ∨ k = 4
  · have E := fun W => eq_v ⟨k, m, n, o⟩ ⟨k, 0, 0, o⟩ W
    have BL := fun a => bld_v03 a o
    have hv : mayB ⟨k, m, n, o⟩ = vB ⟨k, m, n, o⟩ ⟨k, 0, 0, o⟩ := by simp [mayB, vB, h0, h1, h2]
    rw [hv]
    clear hv
    generalize vB ⟨k, m, n, o⟩ ⟨k, 0, 0, o⟩ = r at E ⊢
    unfold vV at E ⊢
    dsimp only at E ⊢
    rcases h2 with rfl | rfl | rfl
    all_goals
      go_enter Try.func120, Try.ntmps120
      go_wp2
      go_ret
      exact ⟨rfl, hB⟩
  have e2 : (k == 2) = false := by simp; omega
  have e3 : (k == 3) = false := by simp; omega
  have e4 : (k == 4) = false := by simp; omega
  by_cases h5 : k = 5
  · subst h5
    have E := fun W => eq_v ⟨5, m, n, o⟩ ⟨5, m, 0, 0⟩ W
    have BL := bld_v01 5 m
    have hv : mayB ⟨5, m, n, o⟩ = (decide (0 ≤ m) && vB ⟨5, m, n, o⟩ ⟨5, m, 0, 0⟩) := by simp [mayB, vB]
    rw [hv]
    clear hv
    generalize vB ⟨5, m, n, o⟩ ⟨5, m, 0, 0⟩ = r at E ⊢
    unfold vV at E ⊢
    dsimp only at E ⊢
    cases hm : decide (0 ≤ m)
    all_goals
      go_enter Try.func120, Try.ntmps120
      go_wp2
      go_ret
      exact ⟨rfl, hB⟩
  have e5 : (k == 5) = false := by simpa using h5
  by_cases h6 : k = 6
  · subst h6
    have hv : mayB ⟨6, m, n, o⟩ = (decide (0 ≤ m) && decide (1 ≤ n)) := by simp [mayB]
    rw [hv]
    clear hv
    unfold vV
    dsimp only
    cases hm : decide (0 ≤ m) <;> cases hn : decide (1 ≤ n)
    all_goals
      go_enter Try.func120, Try.ntmps120
      go_wp2
      go_ret
      exact ⟨rfl, hB⟩
  have e6 : (k == 6) = false := by simpa using h6
  have hv : mayB ⟨k, m, n, o⟩ = false := by simp [mayB, h0, h1, h5, h6]; omega
  rw [hv]
  clear hv h0 h1 h2 h5 h6
  unfold vV
  dsimp only
  go_enter Try.func120, Try.ntmps120
  go_wp2
  go_ret
  exact ⟨rfl, hB⟩

end Go.Proofs.Ytodmikjpmcabiaa.Me

namespace Go.Proofs.Ytodmikjpmcabiaa.Me
set_option linter.unusedSimpArgs false
set_option linter.unusedVariables false
set_option maxRecDepth 100000
open Go.ChangeShapes Go.WideShapes Go.ChangeAt Go.RowKit

/-- A slot's cells. -/
def bC (l : List Int) : List Value := l.map (Value.int .u8)
def sC (s : Sl) : List Value := Value.int .u8 s.h :: (bC s.b ++ vC s.v)
theorem sC_len {s : Sl} (h : SOk s) : (sC s).length = 13 := by
  simp [sC, bC, vC, h.2.1]
def sV (s : Sl) : Value := .agg (sC s).toArray
theorem eight {l : List Int} (h : l.length = 8) : ∃ a b c d e f g i : Int, l = [a, b, c, d, e, f, g, i] := by
  match l, h with
  | [a, b, c, d, e, f, g, i], _ => exact ⟨a, b, c, d, e, f, g, i, rfl⟩
theorem sV_eight (h a b c d e f g i : Int) (v : Vl) : sV ⟨h, [a, b, c, d, e, f, g, i], v⟩ = .agg #[.int .u8 h, .int .u8 a, .int .u8 b, .int .u8 c, .int .u8 d, .int .u8 e, .int .u8 f, .int .u8 g, .int .u8 i, .int .u8 v.k, .int .i64 v.m, .int .u64 v.n, .int .i64 v.o] := rfl

theorem holds_any (s : Sl) (w : World) (hs : SOk s) : Calls Try.prog 155 #[sV s] w fun e w' => e = .returned (.bool (!vB s.v v0)) ∧ Below w.heap.size w w' := by
  obtain ⟨h, l, v⟩ := s
  obtain ⟨a, b, c, d, e, f, g, i, rfl⟩ := eight hs.2.1
  clear hs
  rw [sV_eight]
  have E := fun W => neq_v v v0 W
  have BL := bld_v0
  show Calls _ _ _ _ fun e w' => e = .returned (.bool (!vB v v0)) ∧ _
  generalize (!vB v v0) = r at E ⊢
  obtain ⟨k, m, n, o⟩ := v
  unfold vV v0 at E
  dsimp only at E ⊢
  go_enter Try.func155, Try.ntmps155
  go_wp2
  go_ret
  exact ⟨rfl, (Below.refl _ _).alloc (Nat.le_refl _) _⟩

end Go.Proofs.Ytodmikjpmcabiaa.Me

namespace Go.Proofs.Ytodmikjpmcabiaa.Me
set_option linter.unusedSimpArgs false
set_option linter.unusedVariables false
set_option maxRecDepth 100000
open Go.ChangeShapes Go.WideShapes Go.ChangeAt Go.RowKit

theorem or_byte (a x : Int) (k : Nat) (hk : k ≤ 7) (ha : 0 ≤ a) (ha' : a < 256 ^ k) (hx : 0 ≤ x) (hx' : x < 256) : bits .or .u64 a (IntKind.u64.wrap (x * 2 ^ (8 * k))) = a + x * 256 ^ k := by
  have h8 : k = 0 ∨ k = 1 ∨ k = 2 ∨ k = 3 ∨ k = 4 ∨ k = 5 ∨ k = 6 ∨ k = 7 := by omega
  have key : ∀ i : Nat, i ≤ 56 → a < 2 ^ i → x * 2 ^ i < 18446744073709551616 → bits .or .u64 a (x * 2 ^ i) = a + x * 2 ^ i := by
    intro i hi h1 h2
    have hp : (0 : Int) < 2 ^ i := Int.pow_pos (by decide)
    have hp' : (2 : Int) ^ i ≤ 2 ^ 56 := by
      have := Nat.pow_le_pow_right (n := 2) (by decide) hi
      exact_mod_cast this
    have hm : 0 ≤ x * 2 ^ i := Int.mul_nonneg hx (by omega)
    rw [u64_or a (x * 2 ^ i) ha (by omega) hm h2]
    have e : (x * 2 ^ i).toNat = 2 ^ i * x.toNat := by
      have : x * 2 ^ i = ((2 ^ i * x.toNat : Nat) : Int) := by
        rw [Int.natCast_mul, Int.natCast_pow, Int.toNat_of_nonneg hx, Int.mul_comm]
        rfl
      rw [this, Int.toNat_natCast]
    have hl : a.toNat < 2 ^ i := by
      have : (a.toNat : Int) < ((2 ^ i : Nat) : Int) := by rw [Int.toNat_of_nonneg ha, Int.natCast_pow]; exact h1
      exact_mod_cast this
    rw [e, Nat.or_comm, ← Nat.two_pow_add_eq_or_of_lt hl, Int.natCast_add, Int.natCast_mul, Int.natCast_pow, Int.toNat_of_nonneg hx, Int.toNat_of_nonneg ha, Int.add_comm, Int.mul_comm]
    rfl
  have hw : ∀ y : Int, 0 ≤ y → y < 18446744073709551616 → IntKind.u64.wrap y = y := by
    intro y h0 h1
    rw [IntKind.wrap_u64]
    omega
  rcases h8 with rfl | rfl | rfl | rfl | rfl | rfl | rfl | rfl <;> (rw [hw _ (by omega) (by omega), key _ (by omega) (by simpa using ha') (by omega)]; simp)

theorem number_some (g o cap : Nat) (l : List Int) (hl : l.length ≤ 8) (hb : ∀ x ∈ l, 0 ≤ x ∧ x < 256) (w : World) (hc : w.rangeAt g o (bC l)) :
    Calls Try.prog 145 #[.slice (some ⟨g, o, none⟩) l.length cap] w fun e w' => e = .returned (.int .u64 (numL l)) ∧ w = w' := by
  have HC := hid hc
  have HB := hid hb
  clear hc hb
  go_enter Try.func145, Try.ntmps145
  go_wp2
  go_loop [3, 8] (fun n i => ∃ k : Nat, k ≤ l.length ∧ i = .int .i64 k ∧ n = .int .u64 (numL (l.take k))) (fun _ i => l.length - (intOf i).toNat)
  case atStart => exact ⟨0, Nat.zero_le _, rfl, rfl⟩
  case round =>
    obtain ⟨k, hk, rfl, rfl⟩ := hrel
    by_cases hlt : k < l.length
    · have hx := HB.out l[k] (List.getElem_mem hlt)
      obtain ⟨hx0, hx1⟩ := hx
      have hcell : w.cell? ⟨g, o + k, none⟩ = some (.int .u8 l[k]) := HC.out k _ (by simp [bC, hlt])
      have hn := numL_bd (l.take k) (fun x hx => HB.out x (List.mem_of_mem_take hx))
      have hs : numL (l.take (k + 1)) = numL (l.take k) + l[k] * 256 ^ k := by
        rw [List.take_succ_eq_append_getElem hlt, numL_snoc, List.length_take, Nat.min_eq_left hk]
      rw [List.length_take, Nat.min_eq_left hk] at hn
      have HS : Hid (bits .or .u64 (numL (l.take k)) (IntKind.u64.wrap (l[k] * 2 ^ (8 * k))) = numL (l.take (k + 1))) := by rw [hs]; exact or_byte _ _ _ (by omega) hn.1 hn.2 hx0 hx1
      clear hs hn
      go_wp2
      go_round
      case rel => exact ⟨k + 1, by omega, by go_num, by rw [HS.out]⟩
      case measure => simp [intOf]; omega
    · go_wp2
      go_ret
      have : k = l.length := by omega
      subst this
      exact ⟨ret_val (by rw [List.take_length]; rfl), rfl⟩
theorem number_nil (w : World) : Calls Try.prog 145 #[.slice none 0 0] w fun e w' => e = .returned (.int .u64 0) ∧ w = w' := by
  go_enter Try.func145, Try.ntmps145
  go_wp2
  go_loop [3, 8] (fun n i => i = .int .i64 0 ∧ n = .int .u64 0) (fun _ i => 0)
  case atStart => exact ⟨rfl, rfl⟩
  case round =>
    obtain ⟨rfl, rfl⟩ := hrel
    go_wp2
    go_ret
    exact ⟨rfl, rfl⟩

/-- Some bytes in memory: a slice that holds them, or nil. -/
def BSl (pv : Value) (l : List Int) (w : World) : Prop :=
  (∃ g o cap, pv = .slice (some ⟨g, o, none⟩) l.length cap ∧ l.length ≤ cap ∧ w.rangeAt g o (bC l)) ∨ ((∃ p cap, pv = .slice p 0 cap) ∧ l = [])

theorem part_bad (p : Option Addr) (len cap : Nat) (off n : Int) (w : World) (hl : (len : Int) < 9223372036854775808) (ho : -9223372036854775808 ≤ off ∧ off < 9223372036854775808) (hE : getE len off n ≠ 0) :
    Calls Try.prog 144 #[.slice p len cap, .int .i64 off, .int .i64 n] w fun e w' => e = .returned (.tuple #[.slice none 0 0, .int .i64 (getE len off n)]) ∧ w = w' := by
  unfold getE at hE ⊢
  cases hs : sizeB n
  · have HI := hid (isSize_any n w)
    rw [hs] at HI
    simp only [if_true]
    clear hs hE
    go_enter Try.func144, Try.ntmps144
    go_wp2_with (go_at_call 157; refine HI.out.mono ?_; rintro e w1 ⟨rfl, rfl⟩)
    go_ret2
    exact ⟨rfl, rfl⟩
  · have hn : 1 ≤ n ∧ n ≤ 8 := by rcases size_cases hs with h | h | h | h <;> omega
    have HI := hid (isSize_any n w)
    have HW := hid (within_any len off n w ⟨by omega, hl⟩ hn ho)
    rw [hs] at HI
    cases hw : withinB len off n
    · rw [hw] at HW
      simp only [Bool.true_eq_false, if_false, if_true]
      clear hs hE hw hn
      go_enter Try.func144, Try.ntmps144
      go_wp2_with (first | (go_at_call 157; refine HI.out.mono ?_; rintro e w1 ⟨rfl, rfl⟩) | (go_at_call 158; refine HW.out.mono ?_; rintro e w1 ⟨rfl, rfl⟩))
      go_ret2
      exact ⟨rfl, rfl⟩
    · exact absurd (by simp [hs, hw]) hE

theorem part_ok (g o len cap : Nat) (off n : Int) (w : World) (hc : len ≤ cap) (hl : (len : Int) < 4611686018427387904) (hE : getE len off n = 0) :
    Calls Try.prog 144 #[.slice (some ⟨g, o, none⟩) len cap, .int .i64 off, .int .i64 n] w fun e w' => e = .returned (.tuple #[.slice (some ⟨g, o + off.toNat, none⟩) n.toNat n.toNat, .int .i64 0]) ∧ w = w' := by
  unfold getE at hE
  cases hs : sizeB n
  · simp [hs] at hE
  · cases hw : withinB len off n
    · simp [hs, hw] at hE
    · have hn : 1 ≤ n ∧ n ≤ 8 := by rcases size_cases hs with h | h | h | h <;> omega
      have ho : 0 ≤ off ∧ off ≤ len - n := by simpa [withinB] using hw
      have HI := hid (isSize_any n w)
      have HW := hid (within_any len off n w ⟨by omega, by omega⟩ hn ⟨by omega, by omega⟩)
      rw [hs] at HI
      rw [hw] at HW
      clear hs hE hw
      obtain ⟨hn0, hn1⟩ := hn
      obtain ⟨ho0, ho1⟩ := ho
      obtain ⟨N, rfl⟩ : ∃ N : Nat, n = N := ⟨n.toNat, by omega⟩
      obtain ⟨O, rfl⟩ : ∃ O : Nat, off = O := ⟨off.toNat, by omega⟩
      simp only [Int.toNat_natCast]
      go_enter Try.func144, Try.ntmps144
      go_wp2_with (first | (go_at_call 157; refine HI.out.mono ?_; rintro e w1 ⟨rfl, rfl⟩) | (go_at_call 158; refine HW.out.mono ?_; rintro e w1 ⟨rfl, rfl⟩))
      go_ret2
      exact ⟨ret_val (by simp [Nat.add_sub_cancel_left]), rfl⟩

theorem Get_any (pv : Value) (l : List Int) (off n : Int) (w : World) (hp : BSl pv l w) (hb : ∀ x ∈ l, 0 ≤ x ∧ x < 256) (hl : (l.length : Int) < 4611686018427387904) (ho : -9223372036854775808 ≤ off ∧ off < 9223372036854775808) :
    Calls Try.prog 123 #[pv, .int .i64 off, .int .i64 n] w fun e w' => e = .returned (.tuple #[.int .u64 (getN l off n), .int .i64 (getE l.length off n)]) ∧ w = w' := by
  by_cases hE : getE l.length off n = 0
  · have hlt : withinB l.length off n = true := by
      unfold getE at hE
      cases hs : sizeB n
      · simp [hs] at hE
      · cases hw : withinB l.length off n
        · simp [hs, hw] at hE
        · rfl
    have hs : sizeB n = true := by
      unfold getE at hE
      cases hs : sizeB n
      · simp [hs] at hE
      · rfl
    have hn : 1 ≤ n ∧ n ≤ 8 := by rcases size_cases hs with h | h | h | h <;> omega
    have ho' : 0 ≤ off ∧ off ≤ l.length - n := by simpa [withinB] using hlt
    rcases hp with ⟨g, o, cap, rfl, hcap, hc⟩ | ⟨_, rfl⟩
    · have HP := hid (part_ok g o l.length cap off n w hcap hl hE)
      have hpl : (partL l off.toNat n.toNat).length = n.toNat := by simp [partL]; omega
      have hN := number_some g (o + off.toNat) n.toNat (partL l off.toNat n.toNat) (by omega) (fun x hx => hb x (List.mem_of_mem_drop (List.mem_of_mem_take hx))) w
        (by
          intro j v hv
          have hj : j < n.toNat := by have := (List.getElem?_eq_some_iff.1 hv).1; simpa [bC, hpl] using this
          have := hc (off.toNat + j) v (by
            rw [← hv]
            simp only [bC, partL, List.getElem?_map, List.getElem?_take_of_lt hj, List.getElem?_drop])
          rw [Nat.add_assoc]
          exact this)
      rw [hpl] at hN
      have HN := hid hN
      have hg : getN l off n = numL (partL l off.toNat n.toNat) := by unfold getN; rw [if_pos hE]
      rw [hE, hg]
      clear hN hE hlt hs hn ho' hc hcap hpl hg hb hl
      go_enter Try.func123, Try.ntmps123
      go_wp2_with (first | (go_at_call 144; refine HP.out.mono ?_; rintro e w1 ⟨rfl, rfl⟩) | (go_at_call 145; refine HN.out.mono ?_; rintro e w1 ⟨rfl, rfl⟩))
      go_ret2
      exact ⟨rfl, rfl⟩
    · exfalso
      simp at ho'
      omega
  · have hg : getN l off n = 0 := by unfold getN; rw [if_neg hE]
    rw [hg]
    clear hg
    have hp' : ∃ p cap, pv = .slice p l.length cap := by
      rcases hp with ⟨g, o, cap, rfl, _, _⟩ | ⟨⟨p, cap, rfl⟩, rfl⟩
      · exact ⟨_, _, rfl⟩
      · exact ⟨p, cap, rfl⟩
    obtain ⟨p, cap, rfl⟩ := hp'
    have HP := hid (part_bad p l.length cap off n w (by omega) ho hE)
    have HN := hid (number_nil w)
    generalize getE l.length off n = E at HP hE ⊢
    clear hE hp hb hl ho
    go_enter Try.func123, Try.ntmps123
    go_wp2_with (first | (go_at_call 144; refine HP.out.mono ?_; rintro e w1 ⟨rfl, rfl⟩) | (go_at_call 145; refine HN.out.mono ?_; rintro e w1 ⟨rfl, rfl⟩))
    go_ret2
    exact ⟨rfl, rfl⟩

end Go.Proofs.Ytodmikjpmcabiaa.Me
