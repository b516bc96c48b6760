/-
  Plain: values, slots and frames of the stack; what mem's calls answer of them.
-/
import Derived.ProofKit
namespace Go.Proofs.Ytjlaenkfjejbkaa
set_option linter.unusedSimpArgs false
set_option linter.unusedVariables false

/-- A value: kind, map, number, offset. -/
structure Vl where
  k : Int
  m : Int
  n : Int
  o : Int
deriving DecidableEq
def v0 : Vl := ⟨0, 0, 0, 0⟩
def VOk (v : Vl) : Prop := (0 ≤ v.k ∧ v.k < 256) ∧ (-9223372036854775808 ≤ v.m ∧ v.m < 9223372036854775808) ∧ (0 ≤ v.n ∧ v.n < 18446744073709551616) ∧ (-9223372036854775808 ≤ v.o ∧ v.o < 9223372036854775808)
def mayB (v : Vl) : Bool :=
  if v.k = 0 then v.m == 0 && (v.n == 0 && v.o == 0)
  else if v.k = 1 then v.m == 0 && v.o == 0
  else if v.k = 2 ∨ v.k = 3 ∨ v.k = 4 then v.m == 0 && v.n == 0
  else if v.k = 5 then decide (0 ≤ v.m) && (v.n == 0 && v.o == 0)
  else if v.k = 6 then decide (0 ≤ v.m) && decide (1 ≤ v.n)
  else false
def adrB (v : Vl) : Bool := v.k != 0 && v.k != 1
theorem v0_ok : VOk v0 := by unfold VOk v0; simp

/-- A slot: which bytes hold something, the bytes, the address. -/
structure Sl where
  h : Int
  b : List Int
  v : Vl
deriving DecidableEq
def z8 : List Int := [0, 0, 0, 0, 0, 0, 0, 0]
def s0 : Sl := ⟨0, z8, v0⟩
def SOk (s : Sl) : Prop := (0 ≤ s.h ∧ s.h < 256) ∧ s.b.length = 8 ∧ (∀ x ∈ s.b, 0 ≤ x ∧ x < 256) ∧ VOk s.v
theorem s0_ok : SOk s0 := ⟨⟨by decide, by decide⟩, rfl, by intro x hx; simp [s0, z8] at hx; omega, v0_ok⟩
def hasB (h : Int) (j : Nat) : Bool := h / 2 ^ j % 2 == 1
def byteB (s : Sl) (j : Nat) : Bool := s.b.getD j 0 == 0 || hasB s.h j
def rightS (s : Sl) : Bool :=
  if s.v = v0 then (List.range 8).all (byteB s)
  else mayB s.v && (adrB s.v && (s.h == 255 && s.b == z8))
def sizeB (n : Int) : Bool := n == 1 || (n == 2 || (n == 4 || n == 8))
theorem size_cases {n : Int} (h : sizeB n = true) : n = 1 ∨ n = 2 ∨ n = 4 ∨ n = 8 := by simpa [sizeB] using h
def withinB (room off size : Int) : Bool := decide (0 ≤ off) && decide (off ≤ room - size)
def placeE (off size : Int) : Int := if withinB 512 off size = false then 42 else if off % size = 0 then 0 else 43

/-- The number of some bytes, the first one the lowest; the bytes of a number. -/
def numL : List Int → Int
  | [] => 0
  | x :: r => x + 256 * numL r
def layL (n : Int) : Nat → List Int
  | 0 => []
  | s + 1 => n % 256 :: layL (n / 256) s
theorem layL_len (n : Int) (s : Nat) : (layL n s).length = s := by
  induction s generalizing n with
  | zero => rfl
  | succ s ih => simp [layL, ih]
theorem layL_bd (n : Int) (s : Nat) : ∀ x ∈ layL n s, 0 ≤ x ∧ x < 256 := by
  induction s generalizing n with
  | zero => intro x hx; cases hx
  | succ s ih =>
    intro x hx
    rcases List.mem_cons.1 hx with rfl | hx
    · omega
    · exact ih _ x hx
theorem numL_snoc (l : List Int) (x : Int) : numL (l ++ [x]) = numL l + x * 256 ^ l.length := by
  induction l with
  | nil => simp [numL]
  | cons a l ih =>
    rw [List.cons_append, numL, ih, numL, List.length_cons, Int.pow_succ, Int.mul_add, Int.add_assoc]
    congr 2
    rw [← Int.mul_assoc, Int.mul_comm 256 x, Int.mul_assoc, Int.mul_comm 256 (256 ^ _)]
theorem layL_snoc (n : Int) (s : Nat) : layL n (s + 1) = layL n s ++ [n / 256 ^ s % 256] := by
  induction s generalizing n with
  | zero => simp [layL]
  | succ s ih =>
    rw [layL, ih, layL, List.cons_append]
    congr 4
    rw [Int.pow_succ, Int.mul_comm, Int.ediv_ediv_of_nonneg (by decide)]
theorem numL_bd (l : List Int) (h : ∀ x ∈ l, 0 ≤ x ∧ x < 256) : 0 ≤ numL l ∧ numL l < 256 ^ l.length := by
  induction l with
  | nil => simp [numL]
  | cons a l ih =>
    have ha := h a (List.mem_cons_self ..)
    have hl := ih (fun x hx => h x (List.mem_cons_of_mem _ hx))
    rw [numL, List.length_cons, Int.pow_succ]
    omega
theorem num_lay (n : Int) (s : Nat) (h : 0 ≤ n) : numL (layL n s) = n % 256 ^ s := by
  induction s generalizing n with
  | zero => simp [layL, numL]
  | succ s ih =>
    rw [layL, numL, ih _ (by omega), Int.pow_succ]
    have := Int.emod_emod_of_dvd
    rw [Int.mul_comm (256 ^ s) 256]
    have e : n % (256 * 256 ^ s) = n % 256 + 256 * (n / 256 % 256 ^ s) := by
      rw [Int.emod_def n (256 * 256 ^ s), Int.emod_def (n / 256), ← Int.ediv_ediv_of_nonneg (by decide : (0 : Int) ≤ 256), Int.mul_sub]
      rw [Int.mul_assoc]
      have := Int.emod_def n 256
      omega
    rw [e]

/-- Some cells of a list put in the place of others. -/
def putL (l : List Int) (i : Nat) (xs : List Int) : List Int := l.take i ++ (xs ++ l.drop (i + xs.length))
theorem putL_len {l : List Int} {i : Nat} {xs : List Int} (h : i + xs.length ≤ l.length) : (putL l i xs).length = l.length := by
  simp [putL]; omega
theorem putL_in {l : List Int} {i : Nat} {xs : List Int} (h : i + xs.length ≤ l.length) (j : Nat) (hj : j < xs.length) : (putL l i xs)[i + j]? = xs[j]? := by
  unfold putL
  have hl : (l.take i).length = i := by simp; omega
  rw [List.getElem?_append_right (by omega), hl, List.getElem?_append_left (by omega)]
  congr 1
  omega
theorem putL_out {l : List Int} {i : Nat} {xs : List Int} (h : i + xs.length ≤ l.length) (j : Nat) (hj : j < i ∨ i + xs.length ≤ j) : (putL l i xs)[j]? = l[j]? := by
  unfold putL
  have hl : (l.take i).length = i := by simp; omega
  rcases hj with hj | hj
  · rw [List.getElem?_append_left (by omega), List.getElem?_take_of_lt hj]
  · rw [List.getElem?_append_right (by omega), hl, List.getElem?_append_right (by omega), List.getElem?_drop]
    congr 1
    omega
theorem putL_bd {l : List Int} {i : Nat} {xs : List Int} (hl : ∀ x ∈ l, 0 ≤ x ∧ x < 256) (hx : ∀ x ∈ xs, 0 ≤ x ∧ x < 256) : ∀ x ∈ putL l i xs, 0 ≤ x ∧ x < 256 := by
  intro x h
  unfold putL at h
  rcases List.mem_append.1 h with h | h
  · exact hl x (List.mem_of_mem_take h)
  · rcases List.mem_append.1 h with h | h
    · exact hx x h
    · exact hl x (List.mem_of_mem_drop h)
def partL (l : List Int) (i s : Nat) : List Int := (l.drop i).take s
theorem part_put {l : List Int} {i : Nat} {xs : List Int} (h : i + xs.length ≤ l.length) : partL (putL l i xs) i xs.length = xs := by
  unfold partL putL
  have hl : (l.take i).length = i := by simp; omega
  rw [List.drop_append_of_le_length (by omega), List.drop_of_length_le (by omega), List.nil_append, List.take_append_of_le_length (by omega), List.take_of_length_le (by omega)]

/-- The bits of Have that speak of some bytes. -/
def bitsI (i s : Nat) : Int := (2 ^ s - 1) * 2 ^ i % 256
def allB (h : Int) (i s : Nat) : Bool := (List.range s).all fun j => hasB h (i + j)
def orB (h : Int) (i s : Nat) : Int := bits .or .u8 h (bitsI i s)

/-- What lies in a slot; the slot behind a store. -/
def loadS (s : Sl) (i n : Nat) : Vl × Int :=
  if s.v = v0 then (if allB s.h i n = true then (⟨1, 0, numL (partL s.b i n), 0⟩, 0) else (v0, 40))
  else if n = 8 then (s.v, 0) else (v0, 41)
def baseS (s : Sl) : Sl := if s.v = v0 then s else s0
def numS (s : Sl) (i n : Nat) (x : Int) : Sl := ⟨orB (baseS s).h i n, putL (baseS s).b i (layL x n), v0⟩
def storeS (s : Sl) (i n : Nat) (v : Vl) : Sl × Int :=
  if adrB v = true then (if n = 8 then (⟨255, z8, v⟩, 0) else (s0, 41)) else (numS s i n v.n, 0)

/-- Frames. -/
def f0 : Nat → Sl := fun _ => s0
def rightF (F : Nat → Sl) : Bool := (List.range 64).all fun k => rightS (F k)
def FOk (F : Nat → Sl) : Prop := ∀ k, k < 64 → SOk (F k)
def setF (F : Nat → Sl) (k : Nat) (s : Sl) : Nat → Sl := fun j => if j = k then s else F j
theorem f0_ok : FOk f0 := fun _ _ => s0_ok
def loadF (F : Nat → Sl) (off size : Int) : Vl × Int :=
  if (rightF F && sizeB size) = false then (v0, 1)
  else if placeE off size ≠ 0 then (v0, placeE off size)
  else loadS (F (off / 8).toNat) (off % 8).toNat size.toNat
def storeF (F : Nat → Sl) (off size : Int) (v : Vl) : (Nat → Sl) × Int :=
  if (rightF F && (mayB v && sizeB size)) = false then (f0, 1)
  else if v.k = 0 then (f0, 40)
  else if placeE off size ≠ 0 then (f0, placeE off size)
  else if (storeS (F (off / 8).toNat) (off % 8).toNat size.toNat v).2 ≠ 0 then (f0, (storeS (F (off / 8).toNat) (off % 8).toNat size.toNat v).2)
  else (setF F (off / 8).toNat (storeS (F (off / 8).toNat) (off % 8).toNat size.toNat v).1, 0)
def getE (len : Nat) (off size : Int) : Int := if sizeB size = false then 1 else if withinB len off size = false then 42 else 0
def getN (l : List Int) (off size : Int) : Int := if getE l.length off size = 0 then numL (partL l off.toNat size.toNat) else 0

end Go.Proofs.Ytjlaenkfjejbkaa
