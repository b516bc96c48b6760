/-
  Plain: the least of what Or, And, Xor make of a number of one span and one of another, bit by bit from the highest one on: no program. Plain: what the operations make of spans holds all results; both ends are results where the document says so: no program. Plain: a greater span on either side makes no lesser one: no program.
-/
import Derived.Test.YtjcnpjidkimldaaGreatDoorATnU
namespace Go.Proofs.YtjcnpjidkimldaaGreatDoor
set_option linter.unusedSimpArgs false
set_option linter.unusedVariables false
set_option maxRecDepth 100000
open Go.RowKit

/-- Numbers of a span. -/
def inN (s : Nat × Nat) (x : Nat) : Prop := s.1 ≤ x ∧ x ≤ s.2
def halfN (s : Nat × Nat) (k i : Nat) : Nat × Nat :=
  (max s.1 (s.2 / 2 ^ (k+1) * 2 ^ (k+1) + i * 2 ^ k), min s.2 (s.2 / 2 ^ (k+1) * 2 ^ (k+1) + i * 2 ^ k + (2 ^ k - 1)))
theorem div_iff {x c k : Nat} : x / 2 ^ k = c ↔ c * 2 ^ k ≤ x ∧ x ≤ c * 2 ^ k + (2 ^ k - 1) := by
  have hp : 0 < 2 ^ k := Nat.two_pow_pos k
  rw [Nat.div_eq_iff hp]
  omega
theorem mem_half {s : Nat × Nat} {k i x : Nat} : inN (halfN s k i) x ↔ inN s x ∧ x / 2 ^ k = 2 * (s.2 / 2 ^ (k+1)) + i := by
  rw [div_iff, Nat.add_mul, Nat.mul_comm 2, Nat.mul_assoc, ← Nat.pow_succ']
  unfold inN halfN
  dsimp only
  generalize s.2 / 2 ^ (k+1) * 2 ^ (k+1) + i * 2 ^ k = c
  generalize 2 ^ k - 1 = d
  omega
/-- A bit of a number of a span all of whose numbers are the same above it. -/
theorem bit_of {s : Nat × Nat} {k x : Nat} (hq : s.1 / 2 ^ (k+1) = s.2 / 2 ^ (k+1)) (hx : inN s x) : x / 2 ^ k = 2 * (s.2 / 2 ^ (k+1)) + x / 2 ^ k % 2 := by
  have h1 : x / 2 ^ (k+1) = s.2 / 2 ^ (k+1) := Nat.le_antisymm (Nat.div_le_div_right hx.2) (hq ▸ Nat.div_le_div_right hx.1)
  rw [← h1, Nat.pow_succ, ← Nat.div_div_eq_div_mul]
  omega
/-- An upper half, cut off from the lower one, holds all noughts below. -/
theorem upper {s : Nat × Nat} {k x z : Nat} (hx : inN s x) (hx0 : x / 2 ^ k = 2 * (s.2 / 2 ^ (k+1)) + 0) (hz : inN s z) (hz1 : z / 2 ^ k = 2 * (s.2 / 2 ^ (k+1)) + 1) :
    inN s ((2 * (s.2 / 2 ^ (k+1)) + 1) * 2 ^ k) ∧ ((2 * (s.2 / 2 ^ (k+1)) + 1) * 2 ^ k) / 2 ^ k = 2 * (s.2 / 2 ^ (k+1)) + 1 ∧ ((2 * (s.2 / 2 ^ (k+1)) + 1) * 2 ^ k) % 2 ^ k = 0 := by
  have hp : 0 < 2 ^ k := Nat.two_pow_pos k
  refine ⟨?_, Nat.mul_div_cancel _ hp, Nat.mul_mod_left _ _⟩
  rw [div_iff] at hx0 hz1
  unfold inN at *
  have : (2 * (s.2 / 2 ^ (k+1)) + 1) * 2 ^ k = (2 * (s.2 / 2 ^ (k+1)) + 0) * 2 ^ k + 2 ^ k := by rw [Nat.add_mul, Nat.add_mul, Nat.zero_mul, Nat.one_mul]; omega
  omega
/-- A bitwise operation. -/
structure Bw (f : Nat → Nat → Nat) : Prop where
  dv : ∀ a b n, f a b / 2 ^ n = f (a / 2 ^ n) (b / 2 ^ n)
  md : ∀ a b n, f a b % 2 ^ n = f (a % 2 ^ n) (b % 2 ^ n)
theorem bw_or : Bw (· ||| ·) := ⟨fun _ _ _ => Nat.or_div_two_pow, fun _ _ _ => Nat.or_mod_two_pow⟩
theorem bw_and : Bw (· &&& ·) := ⟨fun _ _ _ => Nat.and_div_two_pow, fun _ _ _ => Nat.and_mod_two_pow⟩
theorem bw_xor : Bw (· ^^^ ·) := ⟨fun _ _ _ => Nat.xor_div_two_pow, fun _ _ _ => Nat.xor_mod_two_pow⟩
theorem Bw.lt {f} (h : Bw f) {x y x' y' k : Nat} (hl : f (x' / 2 ^ k) (y' / 2 ^ k) < f (x / 2 ^ k) (y / 2 ^ k)) : f x' y' ≤ f x y := by
  have a := h.dv x y k
  have b := h.dv x' y' k
  rw [← a, ← b] at hl
  exact Nat.le_of_lt (Nat.lt_of_not_le fun hn => absurd (Nat.div_le_div_right (c := 2 ^ k) hn) (by omega))
theorem Bw.eq {f} (h : Bw f) {x y x' y' k : Nat} (he : f (x' / 2 ^ k) (y' / 2 ^ k) = f (x / 2 ^ k) (y / 2 ^ k)) (hm : f (x' % 2 ^ k) (y' % 2 ^ k) ≤ f (x % 2 ^ k) (y % 2 ^ k)) : f x' y' ≤ f x y := by
  have a := Nat.div_add_mod (f x y) (2 ^ k)
  have b := Nat.div_add_mod (f x' y') (2 ^ k)
  rw [h.dv, h.md] at a b
  rw [he] at b
  omega
/-- What is done to the bit, and to what stands above it. -/
theorem Bw.bit {f} (h : Bw f) (a b i j : Nat) (hi : i < 2) (hj : j < 2) : f (2 * a + i) (2 * b + j) = 2 * f a b + f i j := by
  have x := Nat.div_add_mod (f (2 * a + i) (2 * b + j)) (2 ^ 1)
  rw [h.dv, h.md] at x
  rw [← x]
  have e1 : (2 * a + i) / 2 ^ 1 = a := by omega
  have e2 : (2 * b + j) / 2 ^ 1 = b := by omega
  have e3 : (2 * a + i) % 2 ^ 1 = i := by omega
  have e4 : (2 * b + j) % 2 ^ 1 = j := by omega
  rw [e1, e2, e3, e4]
/-- The chosen way: none comes to less, none that comes to as much stands ahead. -/
def Best (f : Nat → Nat → Nat) (a b : Nat × Nat) (k i j : Nat) : Prop :=
  i < 2 ∧ j < 2 ∧ (∃ x, inN (halfN a k i) x) ∧ (∃ y, inN (halfN b k j) y) ∧
  ∀ p q, p < 2 → q < 2 → (∃ x, inN (halfN a k p) x) → (∃ y, inN (halfN b k q) y) → f i j < f p q ∨ f i j = f p q ∧ 2 * p + q ≤ 2 * i + j
def IsOp (f : Nat → Nat → Nat) : Prop := f = (· ||| ·) ∨ f = (· &&& ·) ∨ f = (· ^^^ ·)
theorem IsOp.bw {f} (h : IsOp f) : Bw f := by
  rcases h with rfl | rfl | rfl
  · exact bw_or
  · exact bw_and
  · exact bw_xor
theorem step_ok {f : Nat → Nat → Nat} (hf : IsOp f) {a b : Nat × Nat} {k i j : Nat} (ha : a.1 / 2 ^ (k+1) = a.2 / 2 ^ (k+1)) (hb : b.1 / 2 ^ (k+1) = b.2 / 2 ^ (k+1))
    (hB : Best f a b k i j) {x y : Nat} (hx : inN a x) (hy : inN b y) : ∃ x' y', inN (halfN a k i) x' ∧ inN (halfN b k j) y' ∧ f x' y' ≤ f x y := by
  obtain ⟨hi, hj, ⟨x1, hx1⟩, ⟨y1, hy1⟩, hall⟩ := hB
  have hw := hf.bw
  have bx := bit_of ha hx
  have by' := bit_of hb hy
  have hp : x / 2 ^ k % 2 < 2 := Nat.mod_lt _ (by decide)
  have hq : y / 2 ^ k % 2 < 2 := Nat.mod_lt _ (by decide)
  have mx : inN (halfN a k (x / 2 ^ k % 2)) x := mem_half.2 ⟨hx, bx⟩
  have my : inN (halfN b k (y / 2 ^ k % 2)) y := mem_half.2 ⟨hy, by'⟩
  have hsel := hall _ _ hp hq ⟨x, mx⟩ ⟨y, my⟩
  have hx1' := mem_half.1 hx1
  have hy1' := mem_half.1 hy1
  rcases hsel with hlt | ⟨heq, hle⟩
  · refine ⟨x1, y1, hx1, hy1, hw.lt (k := k) ?_⟩
    rw [bx, by', hx1'.2, hy1'.2, hw.bit _ _ _ _ hi hj, hw.bit _ _ _ _ hp hq]
    omega
  · have hhi : ∀ x' y', x' / 2 ^ k = 2 * (a.2 / 2 ^ (k+1)) + i → y' / 2 ^ k = 2 * (b.2 / 2 ^ (k+1)) + j → f (x' / 2 ^ k) (y' / 2 ^ k) = f (x / 2 ^ k) (y / 2 ^ k) := by
      intro x' y' h1 h2
      rw [h1, h2, bx, by', hw.bit _ _ _ _ hi hj, hw.bit _ _ _ _ hp hq, heq]
    have UA : i = 1 → x / 2 ^ k % 2 = 0 → ∃ x', inN (halfN a k i) x' ∧ x' / 2 ^ k = 2 * (a.2 / 2 ^ (k+1)) + i ∧ x' % 2 ^ k = 0 := by
      rintro rfl h0
      obtain ⟨u1, u2, u3⟩ := upper hx (bx.trans (by rw [h0])) hx1'.1 hx1'.2
      exact ⟨_, mem_half.2 ⟨u1, u2⟩, u2, u3⟩
    have UB : j = 1 → y / 2 ^ k % 2 = 0 → ∃ y', inN (halfN b k j) y' ∧ y' / 2 ^ k = 2 * (b.2 / 2 ^ (k+1)) + j ∧ y' % 2 ^ k = 0 := by
      rintro rfl h0
      obtain ⟨u1, u2, u3⟩ := upper hy (by'.trans (by rw [h0])) hy1'.1 hy1'.2
      exact ⟨_, mem_half.2 ⟨u1, u2⟩, u2, u3⟩
    have XX : i = x / 2 ^ k % 2 → inN (halfN a k i) x ∧ x / 2 ^ k = 2 * (a.2 / 2 ^ (k+1)) + i := by rintro rfl; exact ⟨mx, bx⟩
    have YY : j = y / 2 ^ k % 2 → inN (halfN b k j) y ∧ y / 2 ^ k = 2 * (b.2 / 2 ^ (k+1)) + j := by rintro rfl; exact ⟨my, by'⟩
    have other : ∀ p q, p < 2 → q < 2 → (p = i ∨ p = x / 2 ^ k % 2) → (q = j ∨ q = y / 2 ^ k % 2) → f i j < f p q ∨ f i j = f p q ∧ 2 * p + q ≤ 2 * i + j := by
      intro p q h1 h2 h3 h4
      refine hall p q h1 h2 ?_ ?_
      · rcases h3 with rfl | rfl
        · exact ⟨_, hx1⟩
        · exact ⟨_, mx⟩
      · rcases h4 with rfl | rfl
        · exact ⟨_, hy1⟩
        · exact ⟨_, my⟩
    clear hall mx my hx1' hy1'
    by_cases e1 : i = x / 2 ^ k % 2
    · obtain ⟨a1, a2⟩ := XX e1
      by_cases e2 : j = y / 2 ^ k % 2
      · obtain ⟨b1, b2⟩ := YY e2
        exact ⟨x, y, a1, b1, Nat.le_refl _⟩
      · -- j = 1, the other 0
        obtain ⟨rfl, h0⟩ : j = 1 ∧ y / 2 ^ k % 2 = 0 := by omega
        obtain ⟨y', b1, b2, b3⟩ := UB rfl h0
        refine ⟨x, y', a1, b1, hw.eq (k := k) (hhi x y' a2 b2) ?_⟩
        rw [b3]
        rcases hf with rfl | rfl | rfl
        · simp only [Nat.or_zero]; exact Nat.left_le_or
        · simp only [Nat.and_zero]; exact Nat.zero_le _
        · rw [h0, ← e1] at heq
          exfalso
          obtain rfl | rfl : i = 0 ∨ i = 1 := by omega
          · revert heq; decide
          · revert heq; decide
    · obtain ⟨rfl, h0⟩ | ⟨rfl, h0⟩ : (i = 1 ∧ x / 2 ^ k % 2 = 0) ∨ (i = 0 ∧ x / 2 ^ k % 2 = 1) := by omega
      · obtain ⟨x', a1, a2, a3⟩ := UA rfl h0
        by_cases e2 : j = y / 2 ^ k % 2
        · obtain ⟨b1, b2⟩ := YY e2
          refine ⟨x', y, a1, b1, hw.eq (k := k) (hhi x' y a2 b2) ?_⟩
          rw [a3]
          rcases hf with rfl | rfl | rfl
          · simp only [Nat.zero_or]; exact Nat.right_le_or
          · simp only [Nat.zero_and]; exact Nat.zero_le _
          · rw [h0, ← e2] at heq
            exfalso
            obtain rfl | rfl : j = 0 ∨ j = 1 := by omega
            · revert heq; decide
            · revert heq; decide
        · obtain ⟨rfl, h2⟩ | ⟨rfl, h2⟩ : (j = 1 ∧ y / 2 ^ k % 2 = 0) ∨ (j = 0 ∧ y / 2 ^ k % 2 = 1) := by omega
          · obtain ⟨y', b1, b2, b3⟩ := UB rfl h2
            refine ⟨x', y', a1, b1, hw.eq (k := k) (hhi x' y' a2 b2) ?_⟩
            rw [a3, b3]
            rcases hf with rfl | rfl | rfl
            · exact Nat.zero_le _
            · exact Nat.zero_le _
            · exact Nat.zero_le _
          · -- (1,0) chosen, (0,1) there: then (1,1) is there
            have h11 := other 1 1 (by decide) (by decide) (Or.inl rfl) (Or.inr h2.symm)
            rcases hf with rfl | rfl | rfl
            · exfalso; revert h11; decide
            · refine ⟨x', y1, a1, hy1, hw.eq (k := k) (hhi x' y1 a2 (mem_half.1 hy1).2) ?_⟩
              rw [a3]; simp only [Nat.zero_and]; exact Nat.zero_le _
            · exfalso; revert h11; decide
      · omega
/-- Bits of a span are gone through from the highest one on, as the code does it. -/
def bmax (x y : B64) : B64 := if x.toNat < y.toNat then y else x
def bmin (x y : B64) : B64 := if x.toNat < y.toNat then x else y
def mayS (s : Tn) : Bool := decide (s.1.toNat ≤ s.2.toNat)
def meetP (a b : Tn) : Tn := (bmax a.1 b.1, bmin a.2 b.2)
def meetS (a b : Tn) : Tn := if mayS (meetP a b) then meetP a b else t0
def firstS (s : Tn) (bit is : B64) : B64 := (s.2 &&& ~~~((bit <<< 1) - 1#64)) ||| is
def halfP (s : Tn) (bit is : B64) : Tn := (firstS s bit is, firstS s bit is ||| (bit - 1#64))
def halfS (s : Tn) (bit is : B64) : Tn := meetS s (halfP s bit is)
def halfOk (s : Tn) (bit is : B64) : Bool := mayS (meetP s (halfP s bit is))
def wayS (f : B64 → B64 → B64) (K : Tn × Tn) (bit : B64) (st : (Tn × Tn) × B64) (x y : B64) : (Tn × Tn) × B64 :=
  if halfOk K.1 bit x && halfOk K.2 bit y && decide ((f x y).toNat < st.2.toNat) then ((halfS K.1 bit x, halfS K.2 bit y), f x y) else st
def stepS (f : B64 → B64 → B64) (K : Tn × Tn) (bit : B64) : Tn × Tn :=
  (wayS f K bit (wayS f K bit (wayS f K bit (wayS f K bit (K, 18446744073709551615#64) bit bit) bit 0#64) 0#64 bit) 0#64 0#64).1
def bitAt (j : Nat) : B64 := (1#64 <<< 63) >>> j
def topS (f : B64 → B64 → B64) (K : Tn × Tn) : Nat → Tn × Tn
  | 0 => K
  | j + 1 => stepS f (topS f K j) (bitAt j)
def leastS (f : B64 → B64 → B64) (a b : Tn) : B64 := f (topS f (a, b) 64).1.1 (topS f (a, b) 64).2.1
def turnS (s : Tn) : Tn := (~~~s.2, ~~~s.1)

def nv (s : Tn) : Nat × Nat := (s.1.toNat, s.2.toNat)
theorem bmax_toNat (x y : B64) : (bmax x y).toNat = max x.toNat y.toNat := by unfold bmax; split <;> omega
theorem bmin_toNat (x y : B64) : (bmin x y).toNat = min x.toNat y.toNat := by unfold bmin; split <;> omega
theorem bitAt_eq (j : Nat) (h : j < 64) : bitAt j = 1#64 <<< (63 - j) := by
  apply BitVec.eq_of_toNat_eq
  unfold bitAt
  rw [BitVec.toNat_ushiftRight, BitVec.toNat_shiftLeft, BitVec.toNat_shiftLeft, Nat.shiftRight_eq_div_pow, Nat.shiftLeft_eq, Nat.shiftLeft_eq]
  rw [show (1#64 : B64).toNat = 1 from rfl, Nat.one_mul, Nat.one_mul, Nat.mod_eq_of_lt (by decide), Nat.mod_eq_of_lt (Nat.pow_lt_pow_right (by decide) (by omega))]
  exact Nat.pow_div (by omega) (by decide)
theorem toNat_bit (k : Nat) (h : k < 64) : (1#64 <<< k).toNat = 2 ^ k := by
  rw [BitVec.toNat_shiftLeft, Nat.shiftLeft_eq, show (1#64 : B64).toNat = 1 from rfl, Nat.one_mul, Nat.mod_eq_of_lt (Nat.pow_lt_pow_right (by decide) h)]
theorem toNat_low (k : Nat) (h : k ≤ 64) : ((1#64 <<< k) - 1#64).toNat = 2 ^ k - 1 := by
  rcases Nat.lt_or_ge k 64 with h' | h'
  · rw [BitVec.toNat_sub, toNat_bit k h', show (1#64 : B64).toNat = 1 from rfl]
    have : 2 ^ k < 2 ^ 64 := Nat.pow_lt_pow_right (by decide) h'
    have := Nat.two_pow_pos k
    omega
  · obtain rfl : k = 64 := by omega
    rfl
theorem shl_one (k : Nat) : (1#64 <<< k) <<< 1 = 1#64 <<< (k + 1) := by rw [BitVec.shiftLeft_add]
theorem toNat_high (x : B64) (m : Nat) (h : m ≤ 64) : (x &&& ~~~((1#64 <<< m) - 1#64)).toNat = x.toNat / 2 ^ m * 2 ^ m := by
  apply Nat.eq_of_testBit_eq
  intro i
  rw [Nat.testBit_mul_two_pow, Nat.testBit_div_two_pow]
  have e : (x &&& ~~~((1#64 <<< m) - 1#64)).toNat.testBit i = (x.getLsbD i && (decide (i < 64) && !decide (i < m))) := by
    rw [← BitVec.getLsbD.eq_1, BitVec.getLsbD_and, BitVec.getLsbD_not]
    congr 3
    rw [BitVec.getLsbD, toNat_low m h, Nat.testBit_two_pow_sub_one]
  rw [e]
  by_cases him : m ≤ i
  · rw [Nat.sub_add_cancel him]
    by_cases h6 : i < 64
    · simp [him, h6, Nat.not_lt.2 him, BitVec.getLsbD]
    · have : x.getLsbD i = false := BitVec.getLsbD_of_ge _ _ (by omega)
      simp [BitVec.getLsbD] at this
      simp [h6, this]
  · simp [him]; omega
theorem firstS_toNat (s : Tn) (k i : Nat) (hk : k < 64) (hi : i < 2) (is : B64) (his : is.toNat = i * 2 ^ k) :
    (firstS s (1#64 <<< k) is).toNat = s.2.toNat / 2 ^ (k + 1) * 2 ^ (k + 1) + i * 2 ^ k := by
  unfold firstS
  rw [shl_one, BitVec.toNat_or, toNat_high _ _ (by omega), his]
  have : i * 2 ^ k < 2 ^ (k + 1) := by
    rw [Nat.pow_succ']
    have := Nat.two_pow_pos k
    obtain rfl | rfl : i = 0 ∨ i = 1 := by omega
    · omega
    · omega
  rw [← Nat.shiftLeft_eq _ (k + 1), ← Nat.shiftLeft_add_eq_or_of_lt this]
theorem halfP_view (s : Tn) (k i : Nat) (hk : k < 64) (hi : i < 2) (is : B64) (his : is.toNat = i * 2 ^ k) : nv (meetP s (halfP s (1#64 <<< k) is)) = halfN (nv s) k i := by
  have hF := firstS_toNat s k i hk hi is his
  unfold nv meetP halfP halfN
  dsimp only
  rw [bmax_toNat, bmin_toNat, BitVec.toNat_or, hF, toNat_low k (by omega)]
  have e : (s.2.toNat / 2 ^ (k + 1) * 2 ^ (k + 1) + i * 2 ^ k) = (s.2.toNat / 2 ^ (k + 1) * 2 + i) * 2 ^ k := by rw [Nat.add_mul, Nat.mul_assoc, ← Nat.pow_succ']
  have : 2 ^ k - 1 < 2 ^ k := by have := Nat.two_pow_pos k; omega
  rw [e, ← Nat.shiftLeft_eq _ k, ← Nat.shiftLeft_add_eq_or_of_lt this]
theorem halfOk_iff (s : Tn) (k i : Nat) (hk : k < 64) (hi : i < 2) (is : B64) (his : is.toNat = i * 2 ^ k) : halfOk s (1#64 <<< k) is = true ↔ ∃ x, inN (halfN (nv s) k i) x := by
  unfold halfOk mayS
  rw [decide_eq_true_eq, ← halfP_view s k i hk hi is his]
  constructor
  · exact fun h => ⟨_, Nat.le_refl _, h⟩
  · exact fun ⟨x, h1, h2⟩ => Nat.le_trans h1 h2
theorem halfS_view (s : Tn) (k i : Nat) (hk : k < 64) (hi : i < 2) (is : B64) (his : is.toNat = i * 2 ^ k) (h : halfOk s (1#64 <<< k) is = true) : nv (halfS s (1#64 <<< k) is) = halfN (nv s) k i := by
  unfold halfOk at h
  unfold halfS meetS
  rw [if_pos h, halfP_view s k i hk hi is his]
/-- An operation of the code beside the plain one. -/
def OpB (f : B64 → B64 → B64) (g : Nat → Nat → Nat) : Prop := IsOp g ∧ ∀ x y, (f x y).toNat = g x.toNat y.toNat
theorem Bw.zero {g} (h : IsOp g) (k i j : Nat) (hi : i < 2) (hj : j < 2) : g (i * 2 ^ k) (j * 2 ^ k) = g i j * 2 ^ k ∧ g i j < 2 := by
  have hp := Nat.two_pow_pos k
  have a := Nat.div_add_mod (g (i * 2 ^ k) (j * 2 ^ k)) (2 ^ k)
  rw [h.bw.dv, h.bw.md, Nat.mul_div_cancel _ hp, Nat.mul_div_cancel _ hp, Nat.mul_mod_left, Nat.mul_mod_left] at a
  have z : g 0 0 = 0 := by rcases h with rfl | rfl | rfl <;> rfl
  rw [z, Nat.add_zero, Nat.mul_comm] at a
  refine ⟨a.symm, ?_⟩
  obtain rfl | rfl : i = 0 ∨ i = 1 := by omega
  · obtain rfl | rfl : j = 0 ∨ j = 1 := by omega
    · rcases h with rfl | rfl | rfl <;> decide
    · rcases h with rfl | rfl | rfl <;> decide
  · obtain rfl | rfl : j = 0 ∨ j = 1 := by omega
    · rcases h with rfl | rfl | rfl <;> decide
    · rcases h with rfl | rfl | rfl <;> decide
/-- Is a way better than what was found so far? -/
def fresher (g : Nat → Nat → Nat) (i j : Nat) : Option (Nat × Nat) → Bool
  | none => true
  | some p => decide (g i j < g p.1 p.2)
def way4 (g : Nat → Nat → Nat) (va vb : Nat → Bool) (st : Option (Nat × Nat)) (i j : Nat) : Option (Nat × Nat) :=
  if va i && vb j && fresher g i j st then some (i, j) else st
/-- The choice among four ways, by which of the halves there are. -/
def pick4 (g : Nat → Nat → Nat) (va vb : Nat → Bool) : Option (Nat × Nat) :=
  way4 g va vb (way4 g va vb (way4 g va vb (way4 g va vb none 1 1) 1 0) 0 1) 0 0
theorem pick4_best (g : Nat → Nat → Nat) (hg : IsOp g) (va vb : Nat → Bool) (ha : va 0 = true ∨ va 1 = true) (hb : vb 0 = true ∨ vb 1 = true) :
    ∃ i j, pick4 g va vb = some (i, j) ∧ i < 2 ∧ j < 2 ∧ va i = true ∧ vb j = true ∧ ∀ p q, p < 2 → q < 2 → va p = true → vb q = true → g i j < g p q ∨ g i j = g p q ∧ 2 * p + q ≤ 2 * i + j := by
  have key : ∀ (a0 a1 b0 b1 : Bool), (a0 || a1) = true → (b0 || b1) = true → va 0 = a0 → va 1 = a1 → vb 0 = b0 → vb 1 = b1 →
    ∃ i j, pick4 g va vb = some (i, j) ∧ i < 2 ∧ j < 2 ∧ va i = true ∧ vb j = true ∧ ∀ p q, p < 2 → q < 2 → va p = true → vb q = true → g i j < g p q ∨ g i j = g p q ∧ 2 * p + q ≤ 2 * i + j := by
    intro a0 a1 b0 b1 h1 h2 e0 e1 f0 f1
    have red : ∀ i j : Nat, i < 2 → j < 2 → va i = true → vb j = true → pick4 g va vb = some (i, j) → (∀ p q, p < 2 → q < 2 → va p = true → vb q = true → g i j < g p q ∨ g i j = g p q ∧ 2 * p + q ≤ 2 * i + j) → _ :=
      fun i j h1 h2 h3 h4 h5 h6 => (⟨i, j, h5, h1, h2, h3, h4, h6⟩ : ∃ i j, pick4 g va vb = some (i, j) ∧ i < 2 ∧ j < 2 ∧ va i = true ∧ vb j = true ∧ ∀ p q, p < 2 → q < 2 → va p = true → vb q = true → g i j < g p q ∨ g i j = g p q ∧ 2 * p + q ≤ 2 * i + j)
    have all4 : ∀ i j : Nat, (va 0 = true → vb 0 = true → g i j < g 0 0 ∨ g i j = g 0 0 ∧ 2 * 0 + 0 ≤ 2 * i + j) → (va 0 = true → vb 1 = true → g i j < g 0 1 ∨ g i j = g 0 1 ∧ 2 * 0 + 1 ≤ 2 * i + j) →
        (va 1 = true → vb 0 = true → g i j < g 1 0 ∨ g i j = g 1 0 ∧ 2 * 1 + 0 ≤ 2 * i + j) → (va 1 = true → vb 1 = true → g i j < g 1 1 ∨ g i j = g 1 1 ∧ 2 * 1 + 1 ≤ 2 * i + j) →
        ∀ p q, p < 2 → q < 2 → va p = true → vb q = true → g i j < g p q ∨ g i j = g p q ∧ 2 * p + q ≤ 2 * i + j := by
      intro i j h00 h01 h10 h11 p q hp hq
      obtain rfl | rfl : p = 0 ∨ p = 1 := by omega
      · obtain rfl | rfl : q = 0 ∨ q = 1 := by omega
        · exact h00
        · exact h01
      · obtain rfl | rfl : q = 0 ∨ q = 1 := by omega
        · exact h10
        · exact h11
    rcases hg with rfl | rfl | rfl <;> cases a0 <;> cases a1 <;> cases b0 <;> cases b1 <;> first
      | (exact absurd h1 (by decide))
      | (exact absurd h2 (by decide))
      | (refine red 1 1 (by decide) (by decide) ?_ ?_ ?_ (all4 _ _ ?_ ?_ ?_ ?_) <;> simp [pick4, way4, fresher, e0, e1, f0, f1] <;> done)
      | (refine red 1 0 (by decide) (by decide) ?_ ?_ ?_ (all4 _ _ ?_ ?_ ?_ ?_) <;> simp [pick4, way4, fresher, e0, e1, f0, f1] <;> done)
      | (refine red 0 1 (by decide) (by decide) ?_ ?_ ?_ (all4 _ _ ?_ ?_ ?_ ?_) <;> simp [pick4, way4, fresher, e0, e1, f0, f1] <;> done)
      | (refine red 0 0 (by decide) (by decide) ?_ ?_ ?_ (all4 _ _ ?_ ?_ ?_ ?_) <;> simp [pick4, way4, fresher, e0, e1, f0, f1] <;> done)
  exact key _ _ _ _ (by rcases ha with h | h <;> simp [h]) (by rcases hb with h | h <;> simp [h]) rfl rfl rfl rfl
def bitIf (bit : B64) (i : Nat) : B64 := if i = 1 then bit else 0#64
theorem bitIf_toNat (k i : Nat) (hk : k < 64) (hi : i < 2) : (bitIf (1#64 <<< k) i).toNat = i * 2 ^ k := by
  obtain rfl | rfl : i = 0 ∨ i = 1 := by omega
  · show (0#64 : B64).toNat = _
    rw [Nat.zero_mul]; rfl
  · show (1#64 <<< k).toNat = _
    rw [toNat_bit k hk, Nat.one_mul]
def asSt (f : B64 → B64 → B64) (K : Tn × Tn) (bit : B64) : Option (Nat × Nat) → (Tn × Tn) × B64
  | none => (K, 18446744073709551615#64)
  | some p => ((halfS K.1 bit (bitIf bit p.1), halfS K.2 bit (bitIf bit p.2)), f (bitIf bit p.1) (bitIf bit p.2))
theorem way_as {f g} (h : OpB f g) (K : Tn × Tn) (k : Nat) (hk : k < 64) (o : Option (Nat × Nat)) (ho : ∀ p, o = some p → p.1 < 2 ∧ p.2 < 2) (i j : Nat) (hi : i < 2) (hj : j < 2) :
    wayS f K (1#64 <<< k) (asSt f K (1#64 <<< k) o) (bitIf (1#64 <<< k) i) (bitIf (1#64 <<< k) j) =
      asSt f K (1#64 <<< k) (way4 g (fun i => halfOk K.1 (1#64 <<< k) (bitIf (1#64 <<< k) i)) (fun j => halfOk K.2 (1#64 <<< k) (bitIf (1#64 <<< k) j)) o i j) := by
  have e : decide ((f (bitIf (1#64 <<< k) i) (bitIf (1#64 <<< k) j)).toNat < (asSt f K (1#64 <<< k) o).2.toNat) = fresher g i j o := by
    obtain ⟨z1, z2⟩ := Bw.zero h.1 k i j hi hj
    rw [h.2, bitIf_toNat k i hk hi, bitIf_toNat k j hk hj, z1]
    have hp := Nat.two_pow_pos k
    cases o with
    | none =>
      show decide (_ < 18446744073709551615) = true
      have : 2 ^ k ≤ 2 ^ 63 := Nat.pow_le_pow_right (by decide) (by omega)
      have : g i j * 2 ^ k ≤ 1 * 2 ^ k := Nat.mul_le_mul_right _ (by omega)
      exact decide_eq_true (by omega)
    | some p =>
      obtain ⟨p1, p2⟩ := ho p rfl
      obtain ⟨y1, y2⟩ := Bw.zero h.1 k p.1 p.2 p1 p2
      show decide (_ < (f (bitIf _ p.1) (bitIf _ p.2)).toNat) = decide (g i j < g p.1 p.2)
      rw [h.2, bitIf_toNat k _ hk p1, bitIf_toNat k _ hk p2, y1, Bool.eq_iff_iff, decide_eq_true_eq, decide_eq_true_eq]
      exact Nat.mul_lt_mul_right hp
  unfold wayS way4
  rw [e]
  by_cases hc : (halfOk K.1 (1#64 <<< k) (bitIf (1#64 <<< k) i) && halfOk K.2 (1#64 <<< k) (bitIf (1#64 <<< k) j) && fresher g i j o) = true
  · rw [if_pos hc, if_pos hc]; rfl
  · rw [if_neg hc, if_neg hc]
theorem way4_two {g va vb} (o : Option (Nat × Nat)) (ho : ∀ p, o = some p → p.1 < 2 ∧ p.2 < 2) (i j : Nat) (hi : i < 2) (hj : j < 2) : ∀ p, way4 g va vb o i j = some p → p.1 < 2 ∧ p.2 < 2 := by
  intro p hp
  unfold way4 at hp
  split at hp
  · obtain rfl := Option.some.inj hp
    exact ⟨hi, hj⟩
  · exact ho p hp
theorem step_as {f g} (h : OpB f g) (K : Tn × Tn) (k : Nat) (hk : k < 64) :
    stepS f K (1#64 <<< k) = (asSt f K (1#64 <<< k) (pick4 g (fun i => halfOk K.1 (1#64 <<< k) (bitIf (1#64 <<< k) i)) (fun j => halfOk K.2 (1#64 <<< k) (bitIf (1#64 <<< k) j)))).1 := by
  have z : ∀ p : Nat × Nat, (none : Option (Nat × Nat)) = some p → p.1 < 2 ∧ p.2 < 2 := by simp
  have s1 := way4_two (g := g) (va := fun i => halfOk K.1 (1#64 <<< k) (bitIf (1#64 <<< k) i)) (vb := fun j => halfOk K.2 (1#64 <<< k) (bitIf (1#64 <<< k) j)) none z 1 1 (by decide) (by decide)
  have s2 := way4_two (g := g) (va := fun i => halfOk K.1 (1#64 <<< k) (bitIf (1#64 <<< k) i)) (vb := fun j => halfOk K.2 (1#64 <<< k) (bitIf (1#64 <<< k) j)) _ s1 1 0 (by decide) (by decide)
  have s3 := way4_two (g := g) (va := fun i => halfOk K.1 (1#64 <<< k) (bitIf (1#64 <<< k) i)) (vb := fun j => halfOk K.2 (1#64 <<< k) (bitIf (1#64 <<< k) j)) _ s2 0 1 (by decide) (by decide)
  change (wayS f K (1#64 <<< k) (wayS f K (1#64 <<< k) (wayS f K (1#64 <<< k) (wayS f K (1#64 <<< k) (asSt f K (1#64 <<< k) none) (bitIf (1#64 <<< k) 1) (bitIf (1#64 <<< k) 1)) (bitIf (1#64 <<< k) 1) (bitIf (1#64 <<< k) 0)) (bitIf (1#64 <<< k) 0) (bitIf (1#64 <<< k) 1)) (bitIf (1#64 <<< k) 0) (bitIf (1#64 <<< k) 0)).1 = _
  rw [way_as h K k hk none z 1 1 (by decide) (by decide), way_as h K k hk _ s1 1 0 (by decide) (by decide), way_as h K k hk _ s2 0 1 (by decide) (by decide), way_as h K k hk _ s3 0 0 (by decide) (by decide)]
  rfl
theorem stepS_ok {f g} (h : OpB f g) (K : Tn × Tn) (k : Nat) (hk : k < 64) (ha : K.1.1.toNat ≤ K.1.2.toNat) (hb : K.2.1.toNat ≤ K.2.2.toNat)
    (qa : K.1.1.toNat / 2 ^ (k+1) = K.1.2.toNat / 2 ^ (k+1)) (qb : K.2.1.toNat / 2 ^ (k+1) = K.2.2.toNat / 2 ^ (k+1)) :
    ∃ i j, Best g (nv K.1) (nv K.2) k i j ∧ nv (stepS f K (1#64 <<< k)).1 = halfN (nv K.1) k i ∧ nv (stepS f K (1#64 <<< k)).2 = halfN (nv K.2) k j := by
  have some1 : ∀ s : Tn, s.1.toNat ≤ s.2.toNat → s.1.toNat / 2 ^ (k+1) = s.2.toNat / 2 ^ (k+1) → halfOk s (1#64 <<< k) (bitIf (1#64 <<< k) 0) = true ∨ halfOk s (1#64 <<< k) (bitIf (1#64 <<< k) 1) = true := by
    intro s hs hq
    have hx : inN (nv s) s.1.toNat := ⟨Nat.le_refl _, hs⟩
    have hm := mem_half.2 ⟨hx, bit_of (s := nv s) hq hx⟩
    have : s.1.toNat / 2 ^ k % 2 = 0 ∨ s.1.toNat / 2 ^ k % 2 = 1 := by omega
    rcases this with e | e
    · exact .inl ((halfOk_iff s k 0 hk (by decide) _ (bitIf_toNat k 0 hk (by decide))).2 ⟨_, e ▸ hm⟩)
    · exact .inr ((halfOk_iff s k 1 hk (by decide) _ (bitIf_toNat k 1 hk (by decide))).2 ⟨_, e ▸ hm⟩)
  obtain ⟨i, j, hp, hi, hj, vi, vj, hall⟩ := pick4_best g h.1 (fun i => halfOk K.1 (1#64 <<< k) (bitIf (1#64 <<< k) i)) (fun j => halfOk K.2 (1#64 <<< k) (bitIf (1#64 <<< k) j)) (some1 _ ha qa) (some1 _ hb qb)
  rw [step_as h K k hk, hp]
  have iff1 := fun i hi => halfOk_iff K.1 k i hk hi _ (bitIf_toNat k i hk hi)
  have iff2 := fun i hi => halfOk_iff K.2 k i hk hi _ (bitIf_toNat k i hk hi)
  refine ⟨i, j, ⟨hi, hj, (iff1 i hi).1 vi, (iff2 j hj).1 vj, fun p q h1 h2 h3 h4 => hall p q h1 h2 ((iff1 p h1).2 h3) ((iff2 q h2).2 h4)⟩, ?_, ?_⟩
  · exact halfS_view K.1 k i hk hi _ (bitIf_toNat k i hk hi) vi
  · exact halfS_view K.2 k j hk hj _ (bitIf_toNat k j hk hj) vj
/-- What stands behind a number of rounds. -/
theorem top_ok {f g} (h : OpB f g) (a b : Tn) (ha : a.1.toNat ≤ a.2.toNat) (hb : b.1.toNat ≤ b.2.toNat) : ∀ n, n ≤ 64 →
    (topS f (a, b) n).1.1.toNat ≤ (topS f (a, b) n).1.2.toNat ∧ (topS f (a, b) n).2.1.toNat ≤ (topS f (a, b) n).2.2.toNat ∧
    (topS f (a, b) n).1.1.toNat / 2 ^ (64 - n) = (topS f (a, b) n).1.2.toNat / 2 ^ (64 - n) ∧ (topS f (a, b) n).2.1.toNat / 2 ^ (64 - n) = (topS f (a, b) n).2.2.toNat / 2 ^ (64 - n) ∧
    (∀ x, inN (nv (topS f (a, b) n).1) x → inN (nv a) x) ∧ (∀ y, inN (nv (topS f (a, b) n).2) y → inN (nv b) y) ∧
    ∀ x y, inN (nv a) x → inN (nv b) y → ∃ x' y', inN (nv (topS f (a, b) n).1) x' ∧ inN (nv (topS f (a, b) n).2) y' ∧ g x' y' ≤ g x y := by
  intro n
  induction n with
  | zero =>
    intro _
    refine ⟨ha, hb, ?_, ?_, fun _ h => h, fun _ h => h, fun x y hx hy => ⟨x, y, hx, hy, Nat.le_refl _⟩⟩
    · show a.1.toNat / 2 ^ 64 = a.2.toNat / 2 ^ 64
      rw [Nat.div_eq_of_lt a.1.isLt, Nat.div_eq_of_lt a.2.isLt]
    · show b.1.toNat / 2 ^ 64 = b.2.toNat / 2 ^ 64
      rw [Nat.div_eq_of_lt b.1.isLt, Nat.div_eq_of_lt b.2.isLt]
  | succ n ih =>
    intro hn
    obtain ⟨i1, i2, i3, i4, i5, i6, i7⟩ := ih (by omega)
    have e64 : 64 - n = 63 - n + 1 := by omega
    rw [e64] at i3 i4
    show _ ∧ _
    rw [show topS f (a, b) (n + 1) = stepS f (topS f (a, b) n) (1#64 <<< (63 - n)) by rw [← bitAt_eq n (by omega)]; rfl]
    rw [show 64 - (n + 1) = 63 - n by omega]
    generalize topS f (a, b) n = K at *
    obtain ⟨i, j, hB, v1, v2⟩ := stepS_ok h K (63 - n) (by omega) i1 i2 i3 i4
    generalize stepS f K (1#64 <<< (63 - n)) = K' at *
    obtain ⟨hi, hj, ⟨x1, hx1⟩, ⟨y1, hy1⟩, _⟩ := id hB
    have g1 : ∀ x, inN (nv K'.1) x → inN (nv K.1) x ∧ x / 2 ^ (63 - n) = 2 * (K.1.2.toNat / 2 ^ (63 - n + 1)) + i := fun x hx => mem_half.1 (v1 ▸ hx)
    have g2 : ∀ x, inN (nv K'.2) x → inN (nv K.2) x ∧ x / 2 ^ (63 - n) = 2 * (K.2.2.toNat / 2 ^ (63 - n + 1)) + j := fun x hx => mem_half.1 (v2 ▸ hx)
    rw [← v1] at hx1
    rw [← v2] at hy1
    have n1 : K'.1.1.toNat ≤ K'.1.2.toNat := Nat.le_trans hx1.1 hx1.2
    have n2 : K'.2.1.toNat ≤ K'.2.2.toNat := Nat.le_trans hy1.1 hy1.2
    refine ⟨n1, n2, ?_, ?_, fun x hx => i5 x (g1 x hx).1, fun y hy => i6 y (g2 y hy).1, ?_⟩
    · rw [(g1 K'.1.1.toNat ⟨Nat.le_refl _, n1⟩).2, (g1 K'.1.2.toNat ⟨n1, Nat.le_refl _⟩).2]
    · rw [(g2 K'.2.1.toNat ⟨Nat.le_refl _, n2⟩).2, (g2 K'.2.2.toNat ⟨n2, Nat.le_refl _⟩).2]
    · intro x y hx hy
      obtain ⟨x', y', hx', hy', hle⟩ := i7 x y hx hy
      obtain ⟨x2, y2, h1, h2, h3⟩ := step_ok h.1 (a := nv K.1) (b := nv K.2) i3 i4 hB hx' hy'
      exact ⟨x2, y2, v1 ▸ h1, v2 ▸ h2, Nat.le_trans h3 hle⟩
/-- THE LEAST. -/
theorem leastS_min {f g} (h : OpB f g) (a b : Tn) (ha : a.1.toNat ≤ a.2.toNat) (hb : b.1.toNat ≤ b.2.toNat) :
    (∃ x y, inN (nv a) x ∧ inN (nv b) y ∧ g x y = (leastS f a b).toNat) ∧ ∀ x y, inN (nv a) x → inN (nv b) y → (leastS f a b).toNat ≤ g x y := by
  obtain ⟨i1, i2, i3, i4, i5, i6, i7⟩ := top_ok h a b ha hb 64 (Nat.le_refl _)
  unfold leastS
  generalize topS f (a, b) 64 = K at *
  rw [h.2]
  have m1 : inN (nv K.1) K.1.1.toNat := ⟨Nat.le_refl _, i1⟩
  have m2 : inN (nv K.2) K.2.1.toNat := ⟨Nat.le_refl _, i2⟩
  refine ⟨⟨_, _, i5 _ m1, i6 _ m2, rfl⟩, fun x y hx hy => ?_⟩
  obtain ⟨x', y', hx', hy', hle⟩ := i7 x y hx hy
  simp only [Nat.sub_self, Nat.pow_zero, Nat.div_one] at i3 i4
  have e1 : x' = K.1.1.toNat := by have a := hx'.1; have b := hx'.2; unfold nv at a b; dsimp only at a b; omega
  have e2 : y' = K.2.1.toNat := by have a := hy'.1; have b := hy'.2; unfold nv at a b; dsimp only at a b; omega
  rw [← e1, ← e2]
  exact hle
end Go.Proofs.YtjcnpjidkimldaaGreatDoor

namespace Go.Proofs.YtjcnpjidkimldaaGreatDoor
set_option linter.unusedSimpArgs false
set_option linter.unusedVariables false
set_option maxRecDepth 100000
open Go.RowKit

def sizeB (w : Bool) : B64 := if w then 64#64 else 32#64
def Lies (s : Tn) (x : Nat) : Prop := s.1.toNat ≤ x ∧ x ≤ s.2.toNat
/-- Or, And and Xor: from the least of all results to the greatest. -/
theorem turn_mem (s : Tn) (x : Nat) (h : Lies s x) : Lies (turnS s) (18446744073709551615 - x) := by
  unfold Lies turnS at *
  dsimp only
  rw [BitVec.toNat_not, BitVec.toNat_not]
  have := s.2.isLt
  omega
theorem turn_back (s : Tn) (x : Nat) (h : Lies (turnS s) x) : Lies s (18446744073709551615 - x) := by
  unfold Lies turnS at *
  dsimp only at h
  rw [BitVec.toNat_not, BitVec.toNat_not] at h
  have := s.1.isLt
  have := s.2.isLt
  omega
theorem lies_lt {s : Tn} {x : Nat} (h : Lies s x) : x < 18446744073709551616 := Nat.lt_of_le_of_lt h.2 s.2.isLt
/-- The least is a result and no result is below it; so with the greatest. -/
theorem ends {f g} (h : OpB f g) {f' g'} (h' : OpB f' g') (a b b' : Tn) (ha : a.1.toNat ≤ a.2.toNat) (hb : b.1.toNat ≤ b.2.toNat) (hb' : b'.1.toNat ≤ b'.2.toNat) (tb : Nat → Nat)
    (t1 : ∀ y, Lies b y → Lies b' (tb y)) (t2 : ∀ y, Lies b' y → ∃ z, Lies b z ∧ y = tb z)
    (dm : ∀ x y, Lies a x → Lies b y → g' (18446744073709551615 - x) (tb y) = 18446744073709551615 - g x y) (hg : ∀ x y, Lies a x → Lies b y → g x y < 18446744073709551616) :
    (∀ x y, Lies a x → Lies b y → Lies (leastS f a b, ~~~(leastS f' (turnS a) b')) (g x y)) ∧
    (∃ x y, Lies a x ∧ Lies b y ∧ g x y = (leastS f a b).toNat) ∧ (∃ x y, Lies a x ∧ Lies b y ∧ g x y = (~~~(leastS f' (turnS a) b')).toNat) := by
  obtain ⟨m1, m2⟩ := leastS_min h a b ha hb
  have hta : (turnS a).1.toNat ≤ (turnS a).2.toNat := by
    unfold turnS; dsimp only; rw [BitVec.toNat_not, BitVec.toNat_not]; omega
  obtain ⟨n1, n2⟩ := leastS_min h' (turnS a) b' hta hb'
  refine ⟨fun x y hx hy => ⟨m2 x y hx hy, ?_⟩, m1, ?_⟩
  · have k := n2 _ _ (turn_mem a x hx) (t1 y hy)
    rw [dm x y hx hy] at k
    have := hg x y hx hy
    show g x y ≤ (~~~(leastS f' (turnS a) b')).toNat
    rw [BitVec.toNat_not]
    omega
  · obtain ⟨x, y, hx, hy, e⟩ := n1
    obtain ⟨z, hz, rfl⟩ := t2 y hy
    have hx' := turn_back a x hx
    have lx := lies_lt hx
    have d := dm _ z hx' hz
    rw [show 18446744073709551615 - (18446744073709551615 - x) = x by omega, e] at d
    refine ⟨_, z, hx', hz, ?_⟩
    have := hg _ z hx' hz
    rw [BitVec.toNat_not, d]
    omega
end Go.Proofs.YtjcnpjidkimldaaGreatDoor

namespace Go.Proofs.YtjcnpjidkimldaaGreatDoor
set_option linter.unusedSimpArgs false
set_option linter.unusedVariables false
set_option maxRecDepth 100000
open Go.RowKit

/-- A span within another one. -/
def Sub (a b : Tn) : Prop := b.1.toNat ≤ a.1.toNat ∧ a.2.toNat ≤ b.2.toNat
theorem Sub.lies {a b : Tn} (h : Sub a b) {x : Nat} (hx : Lies a x) : Lies b x := ⟨Nat.le_trans h.1 hx.1, Nat.le_trans hx.2 h.2⟩
end Go.Proofs.YtjcnpjidkimldaaGreatDoor
