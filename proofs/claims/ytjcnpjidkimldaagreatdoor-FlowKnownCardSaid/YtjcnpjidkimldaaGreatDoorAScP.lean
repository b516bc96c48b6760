/-
  Plain scalars: settling, what they hold, being in as an order; no program.
-/
import Derived.Test.YtjcnpjidkimldaaGreatDoorATnMr
import Derived.Test.YtjcnpjidkimldaaGreatDoorASpMo
namespace Go.Proofs.YtjcnpjidkimldaaGreatDoor
set_option linter.unusedSimpArgs false
set_option linter.unusedVariables false
set_option maxRecDepth 100000
open Go.RowKit

/-- A scalar: a tnum and a span. -/
abbrev Sc := Tn × Tn
def sc0 : Sc := (t0, t0)
/-- The ends that a tnum's bits allow. -/
def hull (t : Tn) : Tn := (t.1, t.1 ||| t.2)
def endsP (x : Sc) : Tn := meetP x.2 (hull x.1)
def rgX (x : Sc) : Tn := rgT (endsP x).1 (endsP x).2
/-- Whether one turn of settling leaves something, and what. -/
def scOk (x : Sc) : Bool := mayS (endsP x) && meetB x.1 (rgX x)
def scN (x : Sc) : Sc := (meetT x.1 (rgX x), endsP x)
def settleN : Nat → Sc → Option Sc
  | 0, _ => none
  | n + 1, x => if scOk x = true then (if scN x = x then some x else settleN n (scN x)) else none
/-- How many bits are any. -/
def cntB (x : B64) : Nat → Nat
  | 0 => 0
  | k + 1 => cntB x k + (if bt x k then 1 else 0)
def mu (x : Sc) : Nat := 2 * cntB x.1.2 64 + (if endsP x = x.2 then 0 else 1)
def settle (x : Sc) : Option Sc := settleN 200 x
def mayX (x : Sc) : Bool := scOk x && (scN x == x)
def hasB (x : Sc) (n : B64) : Prop := thas x.1 n = true ∧ Lies x.2 n.toNat
theorem cntB_le (x : B64) : ∀ k, cntB x k ≤ k
  | 0 => Nat.le_refl _
  | k + 1 => by have := cntB_le x k; unfold cntB; split <;> omega
theorem cntB_mono (x y : B64) (h : ∀ i, i < 64 → bt x i = true → bt y i = true) : ∀ k, k ≤ 64 → cntB x k ≤ cntB y k
  | 0, _ => Nat.le_refl _
  | k + 1, hk => by
    have ih := cntB_mono x y h k (by omega)
    have hh := h k (by omega)
    unfold cntB
    by_cases e : bt x k = true
    · rw [if_pos e, if_pos (hh e)]; omega
    · rw [if_neg e]; split <;> omega
theorem cntB_lt (x y : B64) (h : ∀ i, i < 64 → bt x i = true → bt y i = true) (j : Nat) (hx : bt x j = false) (hy : bt y j = true) : ∀ k, k ≤ 64 → j < k → cntB x k < cntB y k
  | 0, _, hj => by omega
  | k + 1, hk, hj => by
    have hh := h k (by omega)
    unfold cntB
    by_cases e : j = k
    · subst e
      have ih := cntB_mono x y h j (by omega)
      rw [if_neg (by rw [hx]; decide), if_pos hy]; omega
    · have ih := cntB_lt x y h j hx hy k (by omega) (by omega)
      by_cases e : bt x k = true
      · rw [if_pos e, if_pos (hh e)]; omega
      · rw [if_neg e]; split <;> omega
theorem cntB_ne {x y : B64} (h : ∀ i, i < 64 → bt x i = true → bt y i = true) (hne : x ≠ y) : cntB x 64 < cntB y 64 := by
  false_or_by_contra
  rename_i hn
  apply hne
  apply b_ext
  intro i hi
  false_or_by_contra
  rename_i hd
  have hx : bt x i = false := by
    cases e : bt x i
    · rfl
    · exact absurd (by rw [e, h i hi e]) hd
  have hy : bt y i = true := by
    cases e : bt y i
    · exact absurd (by rw [hx, e]) hd
    · rfl
  exact hn (cntB_lt x y h i hx hy 64 (Nat.le_refl _) hi)
theorem mu_le (x : Sc) : mu x ≤ 129 := by
  have := cntB_le x.1.2 64
  unfold mu; split <;> omega
theorem meetP_toNat (a b : Tn) : (meetP a b).1.toNat = max a.1.toNat b.1.toNat ∧ (meetP a b).2.toNat = min a.2.toNat b.2.toNat :=
  ⟨bmax_toNat _ _, bmin_toNat _ _⟩
theorem tn_ext {a b : Tn} (h1 : a.1.toNat = b.1.toNat) (h2 : a.2.toNat = b.2.toNat) : a = b := Prod.ext (BitVec.eq_of_toNat_eq h1) (BitVec.eq_of_toNat_eq h2)
theorem meetP_twice (a b : Tn) : meetP (meetP a b) b = meetP a b := by
  have h1 := meetP_toNat a b
  have h2 := meetP_toNat (meetP a b) b
  apply tn_ext
  · rw [h2.1, h1.1]; omega
  · rw [h2.2, h1.2]; omega
theorem scOk_may {x : Sc} (h : scOk x = true) : tmay x.1 = true ∧ meetB x.1 (rgX x) = true ∧ (endsP x).1.toNat ≤ (endsP x).2.toNat := by
  unfold scOk at h
  rw [Bool.and_eq_true] at h
  obtain ⟨h1, h2⟩ := h
  unfold mayS at h1
  rw [decide_eq_true_eq] at h1
  have h3 := h2
  unfold meetB at h3
  simp only [Bool.and_eq_true] at h3
  exact ⟨h3.1.1.1, h2, h1⟩
theorem meet_bits {a b : Tn} : ∀ i, i < 64 → bt (meetT a b).2 i = (bt a.2 i && bt b.2 i) := fun i _ => by unfold meetT; simp only [bt_and]
theorem meet_val {a b : Tn} : ∀ i, i < 64 → bt (meetT a b).1 i = (bt a.1 i || bt b.1 i) := fun i _ => by unfold meetT; simp only [bt_or]
/-- Where the bits that are any stay, the known ones do. -/
theorem meet_same {a b : Tn} (ha : tmay a = true) (hb : tmay b = true) (h : meetB a b = true) (hm : (meetT a b).2 = a.2) : meetT a b = a := by
  refine Prod.ext (b_ext fun i hi => ?_) hm
  have h1 := (meetB_iff ha hb).1 h i hi
  have h2 : bt (meetT a b).2 i = bt a.2 i := by rw [hm]
  rw [meet_bits i hi] at h2
  have h3 := may_bit ha i
  have h4 := may_bit hb i
  rw [meet_val i hi]
  revert h1 h2 h3 h4
  cases bt a.1 i <;> cases bt a.2 i <;> cases bt b.1 i <;> cases bt b.2 i <;> simp
theorem mu_lt {x : Sc} (h : scOk x = true) (hne : scN x ≠ x) : mu (scN x) < mu x := by
  obtain ⟨ht, hb, hm⟩ := scOk_may h
  have hsub : ∀ i, i < 64 → bt (scN x).1.2 i = true → bt x.1.2 i = true := by
    intro i hi e
    unfold scN at e
    dsimp only at e
    rw [meet_bits i hi, Bool.and_eq_true] at e
    exact e.1
  by_cases e : (scN x).1.2 = x.1.2
  · have e1 : (scN x).1 = x.1 := meet_same ht (rg_may _ _) hb e
    have e2 : endsP (scN x) = (scN x).2 := by
      unfold endsP
      rw [e1]
      exact meetP_twice _ _
    have e3 : endsP x ≠ x.2 := fun k => hne (Prod.ext e1 k)
    unfold mu
    rw [if_pos e2, if_neg e3, e]
    omega
  · have := cntB_ne hsub e
    unfold mu
    split <;> split <;> omega
theorem settle_fuel : ∀ n m x, mu x < n → mu x < m → settleN n x = settleN m x
  | 0, _, _, h, _ => by omega
  | _ + 1, 0, _, _, h => by omega
  | n + 1, m + 1, x, h1, h2 => by
    unfold settleN
    by_cases ho : scOk x = true
    · rw [if_pos ho, if_pos ho]
      by_cases he : scN x = x
      · rw [if_pos he, if_pos he]
      · rw [if_neg he, if_neg he]
        have := mu_lt ho he
        exact settle_fuel n m _ (by omega) (by omega)
    · rw [if_neg ho, if_neg ho]
theorem settle_is (n : Nat) (x : Sc) (h : mu x < n) : settleN n x = settle x := settle_fuel n 200 x h (by have := mu_le x; omega)
theorem settle_step (x : Sc) : settle x = if scOk x = true then (if scN x = x then some x else settle (scN x)) else none := by
  have h1 : settle x = settleN 201 x := (settle_is 201 x (by have := mu_le x; omega)).symm
  rw [h1, settleN]
  rfl
theorem settle_same {x : Sc} (h : scOk x = true) (h2 : scN x = x) : settle x = some x := by rw [settle_step, if_pos h, if_pos h2]
/-- What holds of the answer of settling, by what each turn keeps. -/
theorem settle_ind (P : Sc → Prop) (Q : Option Sc → Prop) (h0 : ∀ x, P x → ¬ scOk x = true → Q none) (h1 : ∀ x, P x → scOk x = true → scN x = x → Q (some x))
    (h2 : ∀ x, P x → scOk x = true → P (scN x)) (x : Sc) (hx : P x) : Q (settle x) := by
  have key : ∀ n x, mu x < n → P x → Q (settle x) := by
    intro n
    induction n with
    | zero => intro x h; omega
    | succ n ih =>
      intro x h hp
      rw [settle_step]
      by_cases ho : scOk x = true
      · rw [if_pos ho]
        by_cases he : scN x = x
        · rw [if_pos he]; exact h1 x hp ho he
        · rw [if_neg he]
          have := mu_lt ho he
          exact ih _ (by omega) (h2 x hp ho)
      · rw [if_neg ho]; exact h0 x hp ho
  exact key _ x (Nat.lt_succ_self _) hx
theorem mayX_iff (x : Sc) : mayX x = true ↔ scOk x = true ∧ scN x = x := by
  unfold mayX
  rw [Bool.and_eq_true, beq_iff_eq]
theorem mayX_settle (x : Sc) : mayX x = true ↔ settle x = some x := by
  rw [mayX_iff]
  constructor
  · rintro ⟨h1, h2⟩; exact settle_same h1 h2
  · intro h
    have := settle_ind (fun _ => True) (fun r => ∀ y, r = some y → scOk y = true ∧ scN y = y) (fun _ _ _ y e => by cases e) (fun z _ a b y e => by cases e; exact ⟨a, b⟩) (fun _ _ _ => trivial) x trivial
    exact this x h
theorem settled {x y : Sc} (h : settle x = some y) : mayX y = true := by
  rw [mayX_iff]
  exact settle_ind (fun _ => True) (fun r => ∀ y, r = some y → scOk y = true ∧ scN y = y) (fun _ _ _ y e => by cases e) (fun z _ a b y e => by cases e; exact ⟨a, b⟩) (fun _ _ _ => trivial) x trivial y h

end Go.Proofs.YtjcnpjidkimldaaGreatDoor
