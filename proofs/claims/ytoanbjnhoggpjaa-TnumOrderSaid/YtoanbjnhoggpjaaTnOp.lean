/-
  Plain: what TnumOrder asks beside the order itself.
-/
import Derived.Test.YtoanbjnhoggpjaaScP
namespace Go.Proofs.Ytoanbjnhoggpjaa
set_option linter.unusedSimpArgs false
set_option linter.unusedVariables false
open Go.RowKit

def allT : Tn := (0#64, 18446744073709551615#64)
theorem bt_ones {i : Nat} (hi : i < 64) : bt 18446744073709551615#64 i = true := by
  have e : (18446744073709551615#64) = BitVec.allOnes 64 := by decide
  unfold bt
  rw [e, BitVec.getLsbD_allOnes, decide_eq_true hi]
theorem bt_nil (i : Nat) : bt 0#64 i = false := by
  show (0#64).getLsbD i = false
  simp
theorem tin_all {a : Tn} (h : tmay a = true) : tin a allT = true := (tin_iff _ _).2 ⟨h, by decide, fun i hi _ => bt_ones hi, (hs_iff _ _).2 fun i hi => by
  show bt 0#64 i = (bt a.1 i && !bt 18446744073709551615#64 i)
  rw [bt_ones hi, bt_nil]
  simp⟩
theorem has_low {a : Tn} (h : tmay a = true) : thas a a.1 = true := (has_iff _ _).2 ⟨h, hs_own h⟩
theorem has_top {a : Tn} (h : tmay a = true) : thas a (a.1 ||| a.2) = true := (has_iff _ _).2 ⟨h, (hs_iff _ _).2 fun i hi => by
  have m := may_bit h i
  rw [bt_or]
  revert m
  cases bt a.1 i <;> cases bt a.2 i <;> simp⟩
theorem cnt_nil (x : B64) : ∀ n, cntU x n = 0 ↔ ∀ i, i < n → bt x i = false
  | 0 => by simp [cntU]
  | n + 1 => by
    rw [cntU]
    constructor
    · intro h i hi
      have h1 : cntU x n = 0 := by omega
      by_cases e : i = n
      · subst e
        cases k : bt x i
        · rfl
        · rw [show x.getLsbD i = true from k] at h
          simp at h
      · exact (cnt_nil x n).1 h1 i (by omega)
    · intro h
      rw [(cnt_nil x n).2 fun i hi => h i (by omega), show x.getLsbD n = false from h n (by omega)]
      rfl
theorem cnt_zero (x : B64) : cntU x 64 = 0 ↔ x = 0#64 := by
  rw [cnt_nil]
  constructor
  · intro h
    exact b_ext fun i hi => by rw [h i hi, bt_nil]
  · rintro rfl i hi
    exact bt_nil i
theorem joinT_in {a b : Tn} (ha : tmay a = true) (hb : tmay b = true) : tin a (joinT a b) = true ∧ tin b (joinT a b) = true := by
  refine ⟨(tin_iff _ _).2 ⟨ha, join_may a b, fun i hi e => ?_, (hs_iff _ _).2 fun i hi => ?_⟩, (tin_iff _ _).2 ⟨hb, join_may a b, fun i hi e => ?_, (hs_iff _ _).2 fun i hi => ?_⟩⟩
  all_goals
    have m1 := may_bit ha i
    have m2 := may_bit hb i
    (try revert e)
    unfold joinT butT
    simp only [bt_and, bt_not _ _ hi, bt_or, bt_xor] <;>
    (revert m1 m2
     cases bt a.1 i <;> cases bt a.2 i <;> cases bt b.1 i <;> cases bt b.2 i <;> simp)
theorem joinT_least {a b c : Tn} (h : tin a c = true) (k : tin b c = true) : tin (joinT a b) c = true := by
  obtain ⟨h1, h2, h3, h4⟩ := (tin_iff _ _).1 h
  obtain ⟨k1, k2, k3, k4⟩ := (tin_iff _ _).1 k
  refine (tin_iff _ _).2 ⟨join_may a b, h2, fun i hi e => ?_, (hs_iff _ _).2 fun i hi => ?_⟩
  all_goals
    have m1 := may_bit h1 i
    have m2 := may_bit k1 i
    have e3 := h3 i hi
    have e4 := (hs_iff _ _).1 h4 i hi
    have e5 := k3 i hi
    have e6 := (hs_iff _ _).1 k4 i hi
    (try revert e)
    unfold joinT butT
    simp only [bt_and, bt_not _ _ hi, bt_or, bt_xor]
    revert m1 m2 e3 e4 e5 e6
    cases bt a.1 i <;> cases bt a.2 i <;> cases bt b.1 i <;> cases bt b.2 i <;> cases bt c.1 i <;> cases bt c.2 i <;> simp
/-- All that TnumOrder asks of three that may be. -/
structure Ord (a b c : Tn) (aa al ab ba bc ac aj bj jc mk ma mb ca cb cm : Bool) : Prop where
  aa : aa = true
  al : al = true
  anti : ab = true → ba = true → a = b
  tr : ab = true → bc = true → ac = true
  aj : aj = true
  bj : bj = true
  jc : ac = true → bc = true → jc = true
  ma : mk = true → ma = true
  mb : mk = true → mb = true
  cm : ca = true → cb = true → mk = true ∧ cm = true
theorem ord_of (a b c : Tn) (ha : tmay a = true) (hb : tmay b = true) (hc : tmay c = true) :
    Ord a b c (tin a a) (tin a allT) (tin a b) (tin b a) (tin b c) (tin a c) (tin a (joinT a b)) (tin b (joinT a b)) (tin (joinT a b) c) (meetB a b) (tin (meetT a b) a) (tin (meetT a b) b) (tin c a) (tin c b) (tin c (meetT a b)) where
  aa := tin_refl ha
  al := tin_all ha
  anti := tin_anti
  tr := tin_trans
  aj := (joinT_in ha hb).1
  bj := (joinT_in ha hb).2
  jc := joinT_least
  ma := fun h => (meet_in ha hb h).1
  mb := fun h => (meet_in ha hb h).2
  cm := meet_least
end Go.Proofs.Ytoanbjnhoggpjaa
