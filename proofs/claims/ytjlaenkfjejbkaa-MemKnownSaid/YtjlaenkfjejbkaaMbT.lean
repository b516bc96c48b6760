/-
  Plain: a number is made of those of its halves; what is put is got, and all else is as it was.
-/
import Derived.Test.YtjlaenkfjejbkaaMbC
namespace Go.Proofs.Ytjlaenkfjejbkaa
set_option linter.unusedSimpArgs false
set_option linter.unusedVariables false
open Go.ChangeShapes Go.WideShapes Go.ChangeAt Go.RowKit

theorem numL_append (a b : List Int) : numL (a ++ b) = numL a + numL b * 256 ^ a.length := by
  induction a with
  | nil => simp [numL]
  | cons x a ih =>
    rw [List.cons_append, numL, ih, numL, List.length_cons, Int.pow_succ, Int.mul_add, Int.add_assoc]
    congr 2
    rw [← Int.mul_assoc, Int.mul_comm 256 (numL b), Int.mul_assoc, Int.mul_comm 256 (256 ^ _)]
theorem part_split (l : List Int) (i h : Nat) : partL l i (h + h) = partL l i h ++ partL l (i + h) h := by
  unfold partL
  rw [List.take_add, List.drop_drop]
theorem part_len {l : List Int} {i s : Nat} (h : i + s ≤ l.length) : (partL l i s).length = s := by
  unfold partL
  rw [List.length_take, List.length_drop]
  omega
theorem part_bd {l : List Int} {i s : Nat} (hb : ∀ x ∈ l, 0 ≤ x ∧ x < 256) : ∀ x ∈ partL l i s, 0 ≤ x ∧ x < 256 := fun x hx => hb x (List.mem_of_mem_drop (List.mem_of_mem_take hx))
theorem or_half (a y : Int) (i : Nat) (hi : i ≤ 32) (ha : 0 ≤ a) (ha' : a < 2 ^ i) (hy : 0 ≤ y) (hy' : y < 2 ^ i) : bits .or .u64 a (IntKind.u64.wrap (y * 2 ^ i)) = a + y * 2 ^ i := by
  have hp : (0 : Int) < 2 ^ i := Int.pow_pos (by decide)
  have hp' : (2 : Int) ^ i ≤ 2 ^ 32 := by
    have := Nat.pow_le_pow_right (n := 2) (by decide) hi
    exact_mod_cast this
  have hm : 0 ≤ y * 2 ^ i := Int.mul_nonneg hy (by omega)
  have hm2 : y * 2 ^ i ≤ 4294967295 * 2 ^ 32 := Int.mul_le_mul (by omega) hp' (by omega) (by decide)
  have hw : IntKind.u64.wrap (y * 2 ^ i) = y * 2 ^ i := by rw [IntKind.wrap_u64]; omega
  rw [hw, u64_or a (y * 2 ^ i) ha (by omega) hm (by omega)]
  have e : (y * 2 ^ i).toNat = 2 ^ i * y.toNat := by
    have : y * 2 ^ i = ((2 ^ i * y.toNat : Nat) : Int) := by
      rw [Int.natCast_mul, Int.natCast_pow, Int.toNat_of_nonneg hy, Int.mul_comm]
      rfl
    rw [this, Int.toNat_natCast]
  have hl : a.toNat < 2 ^ i := by
    have : (a.toNat : Int) < ((2 ^ i : Nat) : Int) := by rw [Int.toNat_of_nonneg ha, Int.natCast_pow]; exact ha'
    exact_mod_cast this
  rw [e, Nat.or_comm, ← Nat.two_pow_add_eq_or_of_lt hl, Int.natCast_add, Int.natCast_mul, Int.natCast_pow, Int.toNat_of_nonneg hy, Int.toNat_of_nonneg ha, Int.add_comm, Int.mul_comm]
  rfl
theorem getE_ok {len : Nat} {off n : Int} (h : getE len off n = 0) : sizeB n = true ∧ 0 ≤ off ∧ off ≤ len - n := by
  unfold getE at h
  cases hs : sizeB n
  · simp [hs] at h
  · cases hw : withinB len off n
    · simp [hs, hw] at h
    · have : 0 ≤ off ∧ off ≤ len - n := by simpa [withinB] using hw
      exact ⟨rfl, this⟩
theorem getE_mk {len : Nat} {off n : Int} (h : sizeB n = true) (h0 : 0 ≤ off) (h1 : off ≤ len - n) : getE len off n = 0 := by
  unfold getE withinB
  rw [h, decide_eq_true h0, decide_eq_true h1]
  rfl
theorem getE_cases (len : Nat) (off n : Int) : getE len off n = 0 ∨ getE len off n = 1 ∨ getE len off n = 42 := by
  unfold getE
  split
  · exact .inr (.inl rfl)
  · split
    · exact .inr (.inr rfl)
    · exact .inl rfl
theorem getN_bad {l : List Int} {off n : Int} (h : getE l.length off n ≠ 0) : getN l off n = 0 := by unfold getN; rw [if_neg h]
theorem getN_half {l : List Int} {off : Int} {H : Nat} (hb : ∀ x ∈ l, 0 ≤ x ∧ x < 256) (hH : H = 1 ∨ H = 2 ∨ H = 4) (h : getE l.length off ((H + H : Nat) : Int) = 0) :
    getE l.length off (H : Int) = 0 ∧ getE l.length (off + H) (H : Int) = 0 ∧ bits .or .u64 (getN l off H) (IntKind.u64.wrap (getN l (off + H) H * 2 ^ (8 * H))) = getN l off ((H + H : Nat) : Int) := by
  obtain ⟨_, h0, h1⟩ := getE_ok h
  have hsH : sizeB (H : Int) = true := by rcases hH with rfl | rfl | rfl <;> rfl
  have e1 : getE l.length off (H : Int) = 0 := getE_mk hsH h0 (by omega)
  have e2 : getE l.length (off + H) (H : Int) = 0 := getE_mk hsH (by omega) (by omega)
  refine ⟨e1, e2, ?_⟩
  unfold getN
  rw [if_pos e1, if_pos e2, if_pos h, Int.toNat_natCast, Int.toNat_natCast, show (off + (H : Int)).toNat = off.toNat + H by omega, part_split, numL_append]
  have l1 := part_len (l := l) (i := off.toNat) (s := H) (by omega)
  have l2 := part_len (l := l) (i := off.toNat + H) (s := H) (by omega)
  have b1 := numL_bd _ (part_bd (i := off.toNat) (s := H) hb)
  have b2 := numL_bd _ (part_bd (i := off.toNat + H) (s := H) hb)
  rw [l1] at b1 ⊢
  rw [l2] at b2
  have ep : (256 : Int) ^ H = 2 ^ (8 * H) := by rw [Int.pow_mul]; rfl
  rw [ep] at b1 b2 ⊢
  exact or_half _ _ _ (by omega) b1.1 b1.2 b2.1 b2.2
theorem get_put {l : List Int} {off n x : Int} (hx : 0 ≤ x) (h : getE l.length off n = 0) :
    (putL l off.toNat (layL x n.toNat)).length = l.length ∧ getN (putL l off.toNat (layL x n.toNat)) off n = x % 256 ^ n.toNat := by
  obtain ⟨hs, h0, h1⟩ := getE_ok h
  have hn : 1 ≤ n ∧ n ≤ 8 := by rcases size_cases hs with h | h | h | h <;> omega
  have hf : off.toNat + (layL x n.toNat).length ≤ l.length := by rw [layL_len]; omega
  have hlen := putL_len hf
  refine ⟨hlen, ?_⟩
  unfold getN
  rw [hlen, if_pos h]
  have := part_put hf
  rw [layL_len] at this
  rw [this, num_lay _ _ hx]
theorem put_bd {l : List Int} {i : Nat} {x : Int} {s : Nat} (hb : ∀ x ∈ l, 0 ≤ x ∧ x < 256) : ∀ y ∈ putL l i (layL x s), 0 ≤ y ∧ y < 256 := putL_bd hb (layL_bd x s)
theorem put_other {l : List Int} {off n x : Int} {j : Nat} (h : getE l.length off n = 0) (hj : j < l.length) (hout : (j : Int) < off ∨ off + n ≤ j) : (putL l off.toNat (layL x n.toNat))[j]? = l[j]? := by
  obtain ⟨hs, h0, h1⟩ := getE_ok h
  have hn : 1 ≤ n ∧ n ≤ 8 := by rcases size_cases hs with h | h | h | h <;> omega
  exact putL_out (by rw [layL_len]; omega) j (by rw [layL_len]; omega)

end Go.Proofs.Ytjlaenkfjejbkaa
