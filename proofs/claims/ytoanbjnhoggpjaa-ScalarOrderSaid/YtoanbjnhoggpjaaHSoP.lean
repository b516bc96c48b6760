/-
  Plain: scalars in order, for the law.
-/
import Derived.Test.YtoanbjnhoggpjaaHSoA
namespace Go.Proofs.Ytoanbjnhoggpjaa
set_option linter.unusedSimpArgs false
set_option linter.unusedVariables false
open Go.RowKit

theorem meet_keeps {a b : Sc} (ha : mayX a = true) (hb : mayX b = true) {x : B64} (hx : hasB a x) (hy : hasB b x) : (meetO a b).isSome = true ∧ hasB (optS (meetO a b)) x := by
  have h1 := meet_has (mayX_parts ha).1 (mayX_parts hb).1 x
  rw [hx.1, hy.1, Bool.and_self, Bool.and_eq_true] at h1
  obtain ⟨e1, e2⟩ := meetP_toNat a.2 b.2
  have l1 := hx.2
  have l2 := hy.2
  unfold Lies at l1 l2
  have h2 : Lies (meetP a.2 b.2) x.toNat := by
    unfold Lies
    rw [e1, e2]
    omega
  have h3 : mayS (meetP a.2 b.2) = true := by
    unfold Lies at h2
    unfold mayS; rw [decide_eq_true_eq]; omega
  have ho : meetOk a b = true := by unfold meetOk; rw [h1.1, h3, ha, hb]; rfl
  unfold meetO
  rw [if_pos ho]
  exact opt_has ⟨h1.2, h2⟩
theorem meet_less {a b : Sc} (h : (meetO a b).isSome = true) : mayX (optS (meetO a b)) = true ∧ leX (optS (meetO a b)) a ∧ leX (optS (meetO a b)) b := by
  unfold meetO at h ⊢
  by_cases ho : meetOk a b = true
  · rw [if_pos ho] at h ⊢
    obtain ⟨h1, h2⟩ := opt_less h
    unfold meetOk at ho
    simp only [Bool.and_eq_true] at ho
    obtain ⟨o1, o2, o3, o4⟩ := ho
    obtain ⟨t1, t2⟩ := meet_in (mayX_parts o3).1 (mayX_parts o4).1 o1
    obtain ⟨e1, e2⟩ := meetP_toNat a.2 b.2
    exact ⟨h1, leX_trans h2 ⟨t1, by dsimp only; omega, by dsimp only; omega⟩, leX_trans h2 ⟨t2, by dsimp only; omega, by dsimp only; omega⟩⟩
  · rw [if_neg ho] at h; cases h
theorem inX_iff (a b : Sc) : inX a b = true ↔ mayX a = true ∧ mayX b = true ∧ leX a b := by
  unfold inX inSp leX
  simp only [Bool.and_eq_true, decide_eq_true_eq]
  constructor
  · rintro ⟨h1, h2, h3, h4⟩
    exact ⟨h1, h2, h3, by simp_all⟩
  · rintro ⟨h1, h2, h3, h4, h5⟩
    exact ⟨h1, h2, h3, by have := (mayX_parts h1).2.2; simp_all⟩
theorem hasX_iff (a : Sc) (n : B64) : hasX a n = true ↔ mayX a = true ∧ hasB a n := by
  unfold hasX hasB Lies
  simp only [Bool.and_eq_true, decide_eq_true_eq]
theorem inX_has {a b : Sc} (h : inX a b = true) {n : B64} (k : hasX a n = true) : hasX b n = true := by
  obtain ⟨h1, h2, h3⟩ := (inX_iff _ _).1 h
  exact (hasX_iff _ _).2 ⟨h2, leX_has h3 ((hasX_iff _ _).1 k).2⟩
theorem inX_refl {a : Sc} (h : mayX a = true) : inX a a = true := inX_of h h (may_le h)
theorem inX_trans {a b c : Sc} (h : inX a b = true) (k : inX b c = true) : inX a c = true := by
  obtain ⟨h1, h2, h3⟩ := (inX_iff _ _).1 h
  obtain ⟨k1, k2, k3⟩ := (inX_iff _ _).1 k
  exact inX_of h1 k2 (leX_trans h3 k3)
theorem joinT_in {a b : Tn} (ha : tmay a = true) (hb : tmay b = true) : tin a (joinT a b) = true ∧ tin b (joinT a b) = true := by
  refine ⟨(tin_iff _ _).2 ⟨ha, join_may a b, fun i hi e => ?_, (hs_iff _ _).2 fun i hi => ?_⟩, (tin_iff _ _).2 ⟨hb, join_may a b, fun i hi e => ?_, (hs_iff _ _).2 fun i hi => ?_⟩⟩
  all_goals
    have m1 := may_bit ha i
    have m2 := may_bit hb i
    (try revert e)
    unfold joinT butT
    simp only [bt_and, bt_not _ _ hi, bt_or, bt_xor] <;>
    (revert m1 m2
     cases bt a.1 i <;> cases bt a.2 i <;> cases bt b.1 i <;> cases bt b.2 i <;> simp)
theorem joinT_least {a b c : Tn} (h : tin a c = true) (k : tin b c = true) : tin (joinT a b) c = true := by
  obtain ⟨h1, h2, h3, h4⟩ := (tin_iff _ _).1 h
  obtain ⟨k1, k2, k3, k4⟩ := (tin_iff _ _).1 k
  refine (tin_iff _ _).2 ⟨join_may a b, h2, fun i hi e => ?_, (hs_iff _ _).2 fun i hi => ?_⟩
  all_goals
    have m1 := may_bit h1 i
    have m2 := may_bit k1 i
    have e3 := h3 i hi
    have e4 := (hs_iff _ _).1 h4 i hi
    have e5 := k3 i hi
    have e6 := (hs_iff _ _).1 k4 i hi
    (try revert e)
    unfold joinT butT
    simp only [bt_and, bt_not _ _ hi, bt_or, bt_xor]
    revert m1 m2 e3 e4 e5 e6
    cases bt a.1 i <;> cases bt a.2 i <;> cases bt b.1 i <;> cases bt b.2 i <;> cases bt c.1 i <;> cases bt c.2 i <;> simp
theorem joinSp_is {a b : Tn} (ha : mayS a = true) (hb : mayS b = true) : joinSp a b = (bmin a.1 b.1, bmax a.2 b.2) := by
  unfold joinSp; rw [if_pos ha, if_pos hb]
theorem joS_ex {a b : Sc} (ha : mayX a = true) (hb : mayX b = true) : mayX (joinX a b) = true ∧ leX a (joinX a b) ∧ leX b (joinX a b) ∧ leX (joinX a b) (joinT a.1 b.1, joinSp a.2 b.2) := by
  obtain ⟨a1, a2, a3⟩ := mayX_parts ha
  obtain ⟨b1, b2, b3⟩ := mayX_parts hb
  obtain ⟨t1, t2⟩ := joinT_in a1 b1
  have hsp := joinSp_is a3 b3
  have la : leX a (joinT a.1 b.1, joinSp a.2 b.2) := by
    refine ⟨t1, ?_, ?_⟩ <;> rw [hsp] <;> dsimp only
    · rw [bmin_toNat]; omega
    · rw [bmax_toNat]; omega
  have lb : leX b (joinT a.1 b.1, joinSp a.2 b.2) := by
    refine ⟨t2, ?_, ?_⟩ <;> rw [hsp] <;> dsimp only
    · rw [bmin_toNat]; omega
    · rw [bmax_toNat]; omega
  obtain ⟨y, hy, ly⟩ := settle_above ha la
  obtain ⟨z, hz, lz⟩ := settle_above hb lb
  have : y = z := by rw [hy] at hz; exact Option.some.inj hz
  subst this
  have e : joinX a b = y := by unfold joinX; simp only [ha, hb, Bool.and_self, if_true, hy]; rfl
  rw [e]
  exact ⟨settled hy, ly, lz, settle_le hy⟩
theorem joS_in {a b : Sc} (ha : mayX a = true) (hb : mayX b = true) : mayX (joinX a b) = true ∧ inX a (joinX a b) = true ∧ inX b (joinX a b) = true := by
  obtain ⟨h1, h2, h3, _⟩ := joS_ex ha hb
  exact ⟨h1, inX_of ha h1 h2, inX_of hb h1 h3⟩
theorem joS_least {a b c : Sc} (h : inX a c = true) (k : inX b c = true) : inX (joinX a b) c = true := by
  obtain ⟨h1, h2, h3⟩ := (inX_iff _ _).1 h
  obtain ⟨k1, k2, k3⟩ := (inX_iff _ _).1 k
  obtain ⟨j1, _, _, j4⟩ := joS_ex h1 k1
  refine inX_of j1 h2 (leX_trans j4 ⟨joinT_least h3.1 k3.1, ?_, ?_⟩)
  all_goals
    rw [joinSp_is (mayX_parts h1).2.2 (mayX_parts k1).2.2]
    dsimp only
    have := h3.2
    have := k3.2
  · rw [bmin_toNat]; omega
  · rw [bmax_toNat]; omega
theorem allX_top {a : Sc} (ha : mayX a = true) : leX a allX := by
  refine ⟨(tin_iff _ _).2 ⟨(mayX_parts ha).1, by decide, fun i hi _ => ?_, ?_⟩, Nat.zero_le _, ?_⟩
  · exact of_decide_eq_true (p := bt allX.1.2 i = true) (by
      have : ∀ i : Fin 64, bt allX.1.2 i.val = true := by decide +kernel
      exact decide_eq_true (this ⟨i, hi⟩))
  · exact allT_has _
  · have := a.2.2.isLt
    show a.2.2.toNat ≤ 18446744073709551615
    omega
theorem allX_in {a : Sc} (ha : mayX a = true) : inX a allX = true := inX_of ha allX_may (allX_top ha)
theorem inX_anti {a b : Sc} (h : inX a b = true) (k : inX b a = true) : a = b := by
  obtain ⟨h1, h2, h3⟩ := (inX_iff _ _).1 h
  obtain ⟨k1, k2, k3⟩ := (inX_iff _ _).1 k
  refine Prod.ext (tin_anti h3.1 k3.1) (Prod.ext ?_ ?_)
  · exact BitVec.eq_of_toNat_eq (by have := h3.2.1; have := k3.2.1; omega)
  · exact BitVec.eq_of_toNat_eq (by have := h3.2.2; have := k3.2.2; omega)
theorem meet_hasX {a b : Sc} (ha : mayX a = true) (hb : mayX b = true) (n : B64) : ((meetO a b).isSome && hasX (optS (meetO a b)) n) = (hasX a n && hasX b n) := by
  rw [Bool.eq_iff_iff, Bool.and_eq_true, Bool.and_eq_true, hasX_iff, hasX_iff, hasX_iff]
  constructor
  · rintro ⟨h1, h2, h3⟩
    obtain ⟨m1, m2, m3⟩ := meet_less h1
    exact ⟨⟨ha, leX_has m2 h3⟩, hb, leX_has m3 h3⟩
  · rintro ⟨⟨_, h1⟩, _, h2⟩
    obtain ⟨k1, k2⟩ := meet_keeps ha hb h1 h2
    exact ⟨k1, (meet_less k1).1, k2⟩
/-- All that ScalarOrder asks of three that may be. -/
structure OrdX (a b : Sc) (aa al ab ba bc ac an bn aj bj jc mk mn ma mb : Bool) : Prop where
  aa : aa = true
  al : al = true
  anti : ab = true → ba = true → a = b
  tr : ab = true → bc = true → ac = true
  hs : ab = true → an = true → bn = true
  aj : aj = true
  bj : bj = true
  jc : ac = true → bc = true → jc = true
  mn : (mk && mn) = (an && bn)
  ma : mk = true → ma = true
  mb : mk = true → mb = true
theorem ordX_of (a b c : Sc) (n : B64) (ha : mayX a = true) (hb : mayX b = true) (hc : mayX c = true) :
    OrdX a b (inX a a) (inX a allX) (inX a b) (inX b a) (inX b c) (inX a c) (hasX a n) (hasX b n) (inX a (joinX a b)) (inX b (joinX a b)) (inX (joinX a b) c) (meetO a b).isSome (hasX (optS (meetO a b)) n) (inX (optS (meetO a b)) a) (inX (optS (meetO a b)) b) where
  aa := inX_refl ha
  al := allX_in ha
  anti := fun h k => inX_anti h k
  tr := fun h k => inX_trans h k
  hs := fun h k => inX_has h k
  aj := (joS_in ha hb).2.1
  bj := (joS_in ha hb).2.2
  jc := fun h k => joS_least h k
  mn := meet_hasX ha hb n
  ma := fun h => inX_of (meet_less h).1 ha (meet_less h).2.1
  mb := fun h => inX_of (meet_less h).1 hb (meet_less h).2.2
end Go.Proofs.Ytoanbjnhoggpjaa
