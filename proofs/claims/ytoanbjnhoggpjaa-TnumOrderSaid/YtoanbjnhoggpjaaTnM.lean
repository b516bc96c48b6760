/-
  Plain numbers: the document's marks, bit by bit.
-/
import Derived.Test.YtoanbjnhoggpjaaTnP
namespace Go.Proofs.Ytoanbjnhoggpjaa
set_option linter.unusedSimpArgs false
set_option linter.unusedVariables false
set_option maxRecDepth 100000
open Go.RowKit

@[go_sem] theorem ub_bitm (x : B64) (i : Nat) : ((ub (x >>> i)).tmod 2 == 1) = bt x i := by
  rw [Int.tmod_eq_emod_of_nonneg (ub_ge _)]
  exact ub_bit x i
/-- What a bit may be: 0, 1. -/
def mM (z o : Bool) : Int := (if z then 1 else 0) + (if o then 2 else 0)
def kz (t : Tn) (i : Nat) : Bool := bt t.2 i || !bt t.1 i
def ko (t : Tn) (i : Nat) : Bool := bt t.2 i || bt t.1 i
/-- The mark of a tnum's bit. -/
def mk (t : Tn) (i : Nat) : Int := mM (kz t i) (ko t i)
@[go_sem] theorem mM_or (z o z' o' : Bool) : bits .or .i64 (mM z o) (mM z' o') = mM (z || z') (o || o') := by
  cases z <;> cases o <;> cases z' <;> cases o' <;> kernel_rfl
@[go_sem] theorem mM_and (z o z' o' : Bool) : bits .and .i64 (mM z o) (mM z' o') = mM (z && z') (o && o') := by
  cases z <;> cases o <;> cases z' <;> cases o' <;> kernel_rfl
@[go_sem] theorem mM_eqz (z o : Bool) : (mM z o == 0) = (!z && !o) := by cases z <;> cases o <;> kernel_rfl
@[go_sem] theorem mM_eq2 (z o : Bool) : (mM z o == 2) = (!z && o) := by cases z <;> cases o <;> kernel_rfl
@[go_sem] theorem mM_eq3 (z o : Bool) : (mM z o == 3) = (z && o) := by cases z <;> cases o <;> kernel_rfl
@[go_sem] theorem mM_eq1 (z o : Bool) : (mM z o == 1) = (z && !o) := by cases z <;> cases o <;> kernel_rfl
theorem mM_eqM (z o z' o' : Bool) : (mM z o == mM z' o') = ((z == z') && (o == o')) := by cases z <;> cases o <;> cases z' <;> cases o' <;> kernel_rfl
/-- The numbers that the document's Made builds, of the first marks. -/
def madeV (z o : Nat → Bool) : Nat → B64
  | 0 => 0#64
  | k + 1 => if (!z k && o k) then madeV z o k + 1#64 <<< k else madeV z o k
def madeM (z o : Nat → Bool) : Nat → B64
  | 0 => 0#64
  | k + 1 => if (z k && o k) then madeM z o k + 1#64 <<< k else madeM z o k
def madeT (z o : Nat → Bool) : Tn := (madeV z o 64, madeM z o 64)

theorem add_bit (x : B64) (k : Nat) (hk : k < 64) (h : ∀ i, k ≤ i → x.getLsbD i = false) (i : Nat) : (x + 1#64 <<< k).getLsbD i = (x.getLsbD i || decide (i = k)) := by
  have e : x &&& 1#64 <<< k = 0#64 := by
    apply BitVec.eq_of_getLsbD_eq
    intro j hj
    simp only [BitVec.getLsbD_and, BitVec.getLsbD_shiftLeft, BitVec.getLsbD_one]
    by_cases hjk : k ≤ j
    · rw [h j hjk]; simp
    · simp; omega
  rw [BitVec.add_eq_or_of_and_eq_zero _ _ e, BitVec.getLsbD_or, BitVec.getLsbD_shiftLeft, BitVec.getLsbD_one]
  congr 1
  by_cases hik : i = k
  · subst hik; simp [hk]
  · by_cases h2 : i < k
    · simp [h2, hik]
    · have : ¬ (i - k = 0) := by omega
      simp [hik, this]
theorem made_bits (p : Nat → Bool) (g : Nat → B64) (h0 : g 0 = 0#64) (hs : ∀ k, g (k + 1) = if p k then g k + 1#64 <<< k else g k) : ∀ k, k ≤ 64 → ∀ i, (g k).getLsbD i = (decide (i < k) && p i)
  | 0, _, i => by rw [h0]; simp
  | k + 1, hk, i => by
    have ih := made_bits p g h0 hs k (by omega)
    have hh : ∀ j, k ≤ j → (g k).getLsbD j = false := fun j hj => by rw [ih j]; simp; omega
    rw [hs]
    cases hp : p k
    · simp only [Bool.false_eq_true, if_false]
      rw [ih i]
      by_cases hik : i = k
      · subst hik; simp [hp]
      · have : (i < k + 1) ↔ (i < k) := by omega
        simp [this]
    · simp only [if_true]
      rw [add_bit _ k (by omega) hh, ih i]
      by_cases hik : i = k
      · subst hik; simp [hp]
      · have : (i < k + 1) ↔ (i < k) := by omega
        simp [this, hik]
theorem madeV_bit (z o : Nat → Bool) (i : Nat) (hi : i < 64) : bt (madeT z o).1 i = (!z i && o i) := by
  have h := made_bits (fun k => !z k && o k) (madeV z o) rfl (fun k => rfl) 64 (Nat.le_refl _) i
  unfold bt madeT
  rw [h]; simp [hi]
theorem madeM_bit (z o : Nat → Bool) (i : Nat) (hi : i < 64) : bt (madeT z o).2 i = (z i && o i) := by
  have h := made_bits (fun k => z k && o k) (madeM z o) rfl (fun k => rfl) 64 (Nat.le_refl _) i
  unfold bt madeT
  rw [h]; simp [hi]
theorem b_ext {x y : B64} (h : ∀ i, i < 64 → bt x i = bt y i) : x = y := BitVec.eq_of_getLsbD_eq (fun i hi => h i hi)
theorem t_ext {a b : Tn} (h1 : ∀ i, i < 64 → bt a.1 i = bt b.1 i) (h2 : ∀ i, i < 64 → bt a.2 i = bt b.2 i) : a = b := Prod.ext (b_ext h1) (b_ext h2)
theorem bt_and (x y : B64) (i : Nat) : bt (x &&& y) i = (bt x i && bt y i) := by unfold bt; simp
theorem bt_or (x y : B64) (i : Nat) : bt (x ||| y) i = (bt x i || bt y i) := by unfold bt; simp
theorem bt_xor (x y : B64) (i : Nat) : bt (x ^^^ y) i = (bt x i ^^ bt y i) := by unfold bt; simp
theorem bt_not (x : B64) (i : Nat) (hi : i < 64) : bt (~~~x) i = !bt x i := by unfold bt; simp [hi]
theorem bt_zero (i : Nat) : bt 0#64 i = false := by unfold bt; simp
theorem bt_shl (x : B64) (n i : Nat) (hi : i < 64) : bt (x <<< n) i = (decide (n ≤ i) && bt x (i - n)) := by
  unfold bt; rw [BitVec.getLsbD_shiftLeft]
  by_cases h : i < n
  · have : ¬ n ≤ i := by omega
    simp [h, this]
  · have : n ≤ i := by omega
    simp [h, this, hi]
theorem bt_shr (x : B64) (n i : Nat) : bt (x >>> n) i = bt x (n + i) := by unfold bt; rw [BitVec.getLsbD_ushiftRight]
theorem bt_out (x : B64) (i : Nat) (h : 64 ≤ i) : bt x i = false := BitVec.getLsbD_of_ge x i h
theorem may_bit {t : Tn} (h : tmay t = true) (i : Nat) : (bt t.1 i && bt t.2 i) = false := by
  unfold tmay at h
  rw [beq_iff_eq] at h
  rw [← bt_and, h, bt_zero]
end Go.Proofs.Ytoanbjnhoggpjaa
