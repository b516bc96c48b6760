/-
  Plain scalars: what a condition tells keeps what there is.
-/
import Derived.Test.YtebilklcmakhnaaFScO
namespace Go.Proofs.Ytebilklcmakhnaa
set_option linter.unusedSimpArgs false
set_option linter.unusedVariables false
set_option maxRecDepth 100000
open Go.RowKit

/-- A condition without signs, of numbers that are not cut. -/
def cndU (u : Int) (x y : B64) : Bool :=
  if u = 1 then x == y else if u = 5 then !(x == y) else if u = 2 then decide (y.toNat < x.toNat) else if u = 3 then decide (y.toNat ≤ x.toNat)
  else if u = 10 then decide (x.toNat < y.toNat) else if u = 11 then decide (x.toNat ≤ y.toNat) else !(x &&& y == 0#64)
theorem isCond_cases {op : Int} (h : Wd.isCond op = true) : op = 1 ∨ op = 5 ∨ op = 2 ∨ op = 3 ∨ op = 10 ∨ op = 11 ∨ op = 4 ∨ op = 6 ∨ op = 7 ∨ op = 12 ∨ op = 13 := by
  unfold Wd.isCond at h
  simp only [Bool.or_eq_true, beq_iff_eq] at h
  omega
theorem dec_lt (x y : B64) : decide (ub x < ub y) = decide (x.toNat < y.toNat) := by rw [Bool.eq_iff_iff, decide_eq_true_eq, decide_eq_true_eq, ub_ltN]
theorem and_ne (x y : B64) : (bits .and .u64 (ub x) (ub y) != 0) = !(x &&& y == 0#64) := by rw [ub_and, bne, ub_eqz]
/-- Below the most, the condition is the plain one. -/
theorem cond_plain {op : Int} (h : Wd.isCond op = true) (c : Bool) (x y : B64) (hx : x.toNat ≤ (mostX op c).toNat) (hy : y.toNat ≤ (mostX op c).toNat) : Wd.condI op c (ub x) (ub y) = cndU (unsI op) x y := by
  have mle : (mostX op c).toNat ≤ modW c - 1 := by
    unfold mostX
    split
    · rw [topW_toNat]; exact Nat.le_refl _
    · rw [BitVec.toNat_udiv, topW_toNat]; exact Nat.div_le_self _ _
  have hm : Wd.MD c = ((modW c : Nat) : Int) := by cases c <;> rfl
  have p := modW_pos c
  have ex : ub x % Wd.MD c = ub x := by rw [hm]; unfold ub; exact Int.emod_eq_of_lt (by omega) (by omega)
  have ey : ub y % Wd.MD c = ub y := by rw [hm]; unfold ub; exact Int.emod_eq_of_lt (by omega) (by omega)
  have sg : unsI op ≠ op → Wd.sgnI c (ub x) = ub x ∧ Wd.sgnI c (ub y) = ub y := by
    intro hu
    have e : (mostX op c).toNat = (modW c - 1) / 2 := by
      unfold mostX
      rw [if_neg hu, BitVec.toNat_udiv, topW_toNat]; rfl
    have m2 : Wd.MD c = ((modW c : Nat) : Int) := hm
    have w2 := modW_two c
    unfold Wd.sgnI
    rw [m2]
    unfold ub
    constructor
    · rw [if_pos]; omega
    · rw [if_pos]; omega
  unfold Wd.condI
  rw [ex, ey]
  rcases isCond_cases h with rfl | rfl | rfl | rfl | rfl | rfl | rfl | rfl | rfl | rfl | rfl
  · show (ub x == ub y) = (x == y); rw [ub_eqi]
  · show (ub x != ub y) = !(x == y); rw [bne, ub_eqi]
  · show decide (ub y < ub x) = decide (y.toNat < x.toNat); rw [dec_lt]
  · show decide (ub y ≤ ub x) = decide (y.toNat ≤ x.toNat); rw [dec_le]
  · show decide (ub x < ub y) = decide (x.toNat < y.toNat); rw [dec_lt]
  · show decide (ub x ≤ ub y) = decide (x.toNat ≤ y.toNat); rw [dec_le]
  · exact and_ne x y
  · obtain ⟨s1, s2⟩ := sg (by decide)
    show decide (Wd.sgnI c (ub y) < Wd.sgnI c (ub x)) = decide (y.toNat < x.toNat); rw [s1, s2, dec_lt]
  · obtain ⟨s1, s2⟩ := sg (by decide)
    show decide (Wd.sgnI c (ub y) ≤ Wd.sgnI c (ub x)) = decide (y.toNat ≤ x.toNat); rw [s1, s2, dec_le]
  · obtain ⟨s1, s2⟩ := sg (by decide)
    show decide (Wd.sgnI c (ub x) < Wd.sgnI c (ub y)) = decide (x.toNat < y.toNat); rw [s1, s2, dec_lt]
  · obtain ⟨s1, s2⟩ := sg (by decide)
    show decide (Wd.sgnI c (ub x) ≤ Wd.sgnI c (ub y)) = decide (x.toNat ≤ y.toNat); rw [s1, s2, dec_le]
theorem unsI_cases {op : Int} (h : Wd.isCond op = true) : unsI op = 1 ∨ unsI op = 5 ∨ unsI op = 2 ∨ unsI op = 3 ∨ unsI op = 10 ∨ unsI op = 11 ∨ unsI op = 4 := by
  rcases isCond_cases h with rfl | rfl | rfl | rfl | rfl | rfl | rfl | rfl | rfl | rfl | rfl <;> decide
theorem opp_is {u : Int} (h : u = 1 ∨ u = 5 ∨ u = 2 ∨ u = 3 ∨ u = 10 ∨ u = 11) (x y : B64) : cndU (oppI u) x y = !cndU u x y := by
  rcases h with rfl | rfl | rfl | rfl | rfl | rfl
  · rfl
  · show (x == y) = !!(x == y); rw [Bool.not_not]
  · show decide (x.toNat ≤ y.toNat) = !decide (y.toNat < x.toNat); rw [← decide_not]; congr 1; exact propext (by omega)
  · show decide (x.toNat < y.toNat) = !decide (y.toNat ≤ x.toNat); rw [← decide_not]; congr 1; exact propext (by omega)
  · show decide (y.toNat ≤ x.toNat) = !decide (x.toNat < y.toNat); rw [← decide_not]; congr 1; exact propext (by omega)
  · show decide (y.toNat < x.toNat) = !decide (x.toNat ≤ y.toNat); rw [← decide_not]; congr 1; exact propext (by omega)
theorem opp_cases {u : Int} (h : u = 1 ∨ u = 5 ∨ u = 2 ∨ u = 3 ∨ u = 10 ∨ u = 11) : oppI u = 1 ∨ oppI u = 5 ∨ oppI u = 2 ∨ oppI u = 3 ∨ oppI u = 10 ∨ oppI u = 11 := by
  rcases h with rfl | rfl | rfl | rfl | rfl | rfl <;> decide

/-- Both numbers are kept, and nothing is known of more. -/
structure Keep (a b : Sc) (x y : B64) (r : Sc × Sc × Bool) : Prop where
  ok : r.2.2 = true
  hx : hasB r.1 x
  hy : hasB r.2.1 y
structure Less (a b : Sc) (r : Sc × Sc × Bool) : Prop where
  mx : mayX r.1 = true
  lx : leX r.1 a
  my : mayX r.2.1 = true
  ly : leX r.2.1 b
theorem opt_has {x : Sc} {n : B64} (h : hasB x n) : (settle x).isSome = true ∧ hasB (optS (settle x)) n := by
  obtain ⟨y, e, hy⟩ := settle_has h
  rw [e]; exact ⟨rfl, hy⟩
theorem opt_less {x : Sc} (h : (settle x).isSome = true) : mayX (optS (settle x)) = true ∧ leX (optS (settle x)) x := by
  cases e : settle x with
  | none => rw [e] at h; cases h
  | some y => exact ⟨settled e, settle_le e⟩
theorem may_le {a : Sc} (h : mayX a = true) : leX a a := leX_refl (mayX_parts h).1
theorem cut_le {a : Sc} (h : mayX a = true) {lo hi : B64} (h1 : a.2.1.toNat ≤ lo.toNat) (h2 : hi.toNat ≤ a.2.2.toNat) : leX (a.1, (lo, hi)) a := ⟨tin_refl (mayX_parts h).1, h1, h2⟩
theorem meet_keeps {a b : Sc} (ha : mayX a = true) (hb : mayX b = true) {x : B64} (hx : hasB a x) (hy : hasB b x) : (meetO a b).isSome = true ∧ hasB (optS (meetO a b)) x := by
  have h1 := meet_has (mayX_parts ha).1 (mayX_parts hb).1 x
  rw [hx.1, hy.1, Bool.and_self, Bool.and_eq_true] at h1
  obtain ⟨e1, e2⟩ := meetP_toNat a.2 b.2
  have l1 := hx.2
  have l2 := hy.2
  unfold Lies at l1 l2
  have h2 : Lies (meetP a.2 b.2) x.toNat := by
    unfold Lies
    rw [e1, e2]
    omega
  have h3 : mayS (meetP a.2 b.2) = true := by
    unfold Lies at h2
    unfold mayS; rw [decide_eq_true_eq]; omega
  have ho : meetOk a b = true := by unfold meetOk; rw [h1.1, h3, ha, hb]; rfl
  unfold meetO
  rw [if_pos ho]
  exact opt_has ⟨h1.2, h2⟩
theorem meet_less {a b : Sc} (h : (meetO a b).isSome = true) : mayX (optS (meetO a b)) = true ∧ leX (optS (meetO a b)) a ∧ leX (optS (meetO a b)) b := by
  unfold meetO at h ⊢
  by_cases ho : meetOk a b = true
  · rw [if_pos ho] at h ⊢
    obtain ⟨h1, h2⟩ := opt_less h
    unfold meetOk at ho
    simp only [Bool.and_eq_true] at ho
    obtain ⟨o1, o2, o3, o4⟩ := ho
    obtain ⟨t1, t2⟩ := meet_in (mayX_parts o3).1 (mayX_parts o4).1 o1
    obtain ⟨e1, e2⟩ := meetP_toNat a.2 b.2
    exact ⟨h1, leX_trans h2 ⟨t1, by dsimp only; omega, by dsimp only; omega⟩, leX_trans h2 ⟨t2, by dsimp only; omega, by dsimp only; omega⟩⟩
  · rw [if_neg ho] at h; cases h
/-- What is settled and has a single number in its span has it alone. -/
theorem may_single {a : Sc} (ha : mayX a = true) {n : B64} (h : a.2 = (n, n)) : a = ofX n := by
  obtain ⟨o, s⟩ := (mayX_iff a).1 ha
  obtain ⟨m1, m2, m3⟩ := scOk_may o
  have s1 : meetT a.1 (rgX a) = a.1 := congrArg Prod.fst s
  have s2 : endsP a = a.2 := congrArg Prod.snd s
  have r : rgX a = (n, 0#64) := by unfold rgX; rw [s2, h]; exact rg_one n
  have k : tin (meetT a.1 (rgX a)) (rgX a) = true := (meet_in m1 (rg_may _ _) m2).2
  rw [s1, r] at k
  obtain ⟨_, _, k3, k4⟩ := (tin_iff _ _).1 k
  have z : a.1.2 = 0#64 := by
    have := congrArg Prod.snd s1
    rw [← this, r]
    show a.1.2 &&& 0#64 = 0#64
    exact BitVec.and_zero
  have y : a.1.1 = n := by
    have k5 : a.1.1 &&& ~~~0#64 = n := k4
    rw [show (~~~0#64 : B64) = BitVec.allOnes 64 from rfl, BitVec.and_allOnes] at k5
    exact k5
  exact Prod.ext (Prod.ext y z) h
theorem single_num {b : Sc} (hs : singleX b = true) {y : B64} (hy : hasB b y) : y = b.2.1 := by
  unfold singleX at hs
  rw [beq_iff_eq] at hs
  have l := hy.2
  unfold Lies at l
  rw [← hs] at l
  exact BitVec.eq_of_toNat_eq (by omega)
theorem wth_keeps {a b : Sc} {x y : B64} (hx : hasB a x) (hy : hasB b y) (hne : x ≠ y) : (wthO a b).isSome = true ∧ hasB (optS (wthO a b)) x := by
  have l := hx.2
  unfold Lies at l
  have hn : x.toNat ≠ y.toNat := fun h => hne (BitVec.eq_of_toNat_eq h)
  have xl := x.isLt
  unfold wthO
  by_cases h1 : a = b ∧ singleX b = true
  · exfalso
    obtain ⟨rfl, hs⟩ := h1
    exact hne ((single_num hs hx).trans (single_num hs hy).symm)
  rw [if_neg h1]
  by_cases h2 : singleX b = true ∧ a.2.1 = b.2.1
  · rw [if_pos h2]
    have e := single_num h2.1 hy
    have lo : (b.2.1 + 1#64).toNat ≤ x.toNat := by
      rw [add64, ← e]
      rw [h2.2, ← e] at l
      show (y.toNat + 1) % 18446744073709551616 ≤ _
      omega
    exact opt_has ⟨hx.1, lo, l.2⟩
  rw [if_neg h2]
  by_cases h3 : singleX b = true ∧ a.2.2 = b.2.1
  · rw [if_pos h3]
    have e := single_num h3.1 hy
    have hi : x.toNat ≤ (b.2.1 - 1#64).toNat := by
      rw [sub64, ← e]
      rw [h3.2, ← e] at l
      show _ ≤ (y.toNat + 18446744073709551616 - 1) % 18446744073709551616
      omega
    exact opt_has ⟨hx.1, l.1, hi⟩
  rw [if_neg h3]
  exact ⟨rfl, hx⟩
theorem wth_less {a b : Sc} (ha : mayX a = true) (hb : mayX b = true) (h : (wthO a b).isSome = true) : mayX (optS (wthO a b)) = true ∧ leX (optS (wthO a b)) a := by
  have al := a.2.2.isLt
  have hle := (mayX_parts ha).2.1
  unfold wthO at h ⊢
  by_cases h1 : a = b ∧ singleX b = true
  · rw [if_pos h1] at h; cases h
  rw [if_neg h1] at h ⊢
  by_cases h2 : singleX b = true ∧ a.2.1 = b.2.1
  · rw [if_pos h2] at h ⊢
    obtain ⟨k1, k2⟩ := opt_less h
    refine ⟨k1, ?_⟩
    by_cases hm : b.2.1.toNat = 18446744073709551615
    · have e := k2.2
      have p := (mayX_parts k1).2.1
      have z : (b.2.1 + 1#64).toNat = 0 := by rw [add64, hm]; rfl
      exfalso
      apply h1
      have s1 := h2.1
      unfold singleX at s1
      rw [beq_iff_eq] at s1
      refine ⟨?_, h2.1⟩
      have ea : a.2 = (b.2.1, b.2.1) := tn_ext (by rw [h2.2]) (by rw [h2.2] at hle; dsimp only; omega)
      have ebt : b.2 = (b.2.1, b.2.1) := Prod.ext rfl s1.symm
      rw [may_single ha ea, may_single hb ebt]
      rfl
    · exact leX_trans k2 (cut_le ha (by rw [add64, h2.2]; show _ ≤ (_ + 1) % 18446744073709551616; have := b.2.1.isLt; omega) (Nat.le_refl _))
  rw [if_neg h2] at h ⊢
  by_cases h3 : singleX b = true ∧ a.2.2 = b.2.1
  · rw [if_pos h3] at h ⊢
    obtain ⟨k1, k2⟩ := opt_less h
    refine ⟨k1, leX_trans k2 (cut_le ha (Nat.le_refl _) ?_)⟩
    by_cases hz : b.2.1.toNat = 0
    · exfalso
      apply h2
      refine ⟨h3.1, BitVec.eq_of_toNat_eq ?_⟩
      rw [h3.2] at hle
      omega
    · rw [sub64, h3.2]; show (_ + 18446744073709551616 - 1) % 18446744073709551616 ≤ _; have := b.2.1.isLt; omega
  rw [if_neg h3] at h ⊢
  exact ⟨ha, may_le ha⟩
theorem abv_keeps {a b : Sc} {x y : B64} (hx : hasB a x) (hy : hasB b y) {k : B64} (hk : k.toNat ≤ 1) (h : y.toNat + k.toNat ≤ x.toNat) : Keep a b x y (abvT a b k) := by
  have lx := hx.2
  have ly := hy.2
  unfold Lies at lx ly
  have xl := x.isLt
  have e1 : (allX.2.2 - k).toNat = 18446744073709551615 - k.toNat := by
    rw [sub64]; show (18446744073709551615 + 18446744073709551616 - k.toNat) % 18446744073709551616 = _; omega
  have g1 : ¬ ub (allX.2.2 - k) < ub b.2.1 := by rw [ub_ltN, e1]; omega
  have g2 : ¬ ub a.2.2 < ub k := by rw [ub_ltN]; omega
  have e : abvT a b k = (optS (settle (abvA a b k)), optS (settle (abvB a b k)), (settle (abvA a b k)).isSome && (settle (abvB a b k)).isSome) :=
    if_pos (by unfold abvOk; rw [decide_eq_false g1, decide_eq_false g2]; simp)
  have hA : hasB (abvA a b k) x := by
    refine ⟨hx.1, ?_, lx.2⟩
    show (bmax a.2.1 (b.2.1 + k)).toNat ≤ _
    rw [bmax_toNat, add64]
    omega
  have hB : hasB (abvB a b k) y := by
    refine ⟨hy.1, ly.1, ?_⟩
    show _ ≤ (bmin b.2.2 (a.2.2 - k)).toNat
    rw [bmin_toNat, sub64]
    omega
  obtain ⟨a1, a2⟩ := opt_has hA
  obtain ⟨b1, b2⟩ := opt_has hB
  rw [e]
  exact ⟨by rw [a1, b1]; rfl, a2, b2⟩
theorem abv_less {a b : Sc} (ha : mayX a = true) (hb : mayX b = true) {k : B64} (hk : k.toNat ≤ 1) (h : (abvT a b k).2.2 = true) : Less a b (abvT a b k) := by
  unfold abvT at h ⊢
  by_cases ho : abvOk a b k = true
  · rw [if_pos ho] at h ⊢
    rw [Bool.and_eq_true] at h
    obtain ⟨k1, k2⟩ := opt_less h.1
    obtain ⟨k3, k4⟩ := opt_less h.2
    refine ⟨k1, leX_trans k2 (cut_le ha ?_ (Nat.le_refl _)), k3, leX_trans k4 (cut_le hb (Nat.le_refl _) ?_)⟩
    · rw [bmax_toNat]; omega
    · rw [bmin_toNat]; omega
  · rw [if_neg ho] at h; cases h
theorem tolQ_keeps {q : Int} (hq : q = 1 ∨ q = 5 ∨ q = 2 ∨ q = 3 ∨ q = 10 ∨ q = 11) {a b : Sc} (ha : mayX a = true) (hb : mayX b = true) {x y : B64} (hx : hasB a x) (hy : hasB b y) (h : cndU q x y = true) : Keep a b x y (tolQ q a b) := by
  rcases hq with rfl | rfl | rfl | rfl | rfl | rfl
  · have e : x = y := by have h' : (x == y) = true := h; exact beq_iff_eq.1 h'
    subst e
    obtain ⟨k1, k2⟩ := meet_keeps ha hb hx hy
    exact ⟨k1, k2, k2⟩
  · have e : x ≠ y := by
      have h' : (!(x == y)) = true := h
      intro e
      rw [e, beq_self_eq_true] at h'
      cases h'
    obtain ⟨k1, k2⟩ := wth_keeps hx hy e
    obtain ⟨k3, k4⟩ := wth_keeps hy hx (fun z => e z.symm)
    exact ⟨(by show ((wthO a b).isSome && (wthO b a).isSome) = true; rw [k1, k3]; rfl), k2, k4⟩
  · have e : y.toNat < x.toNat := of_decide_eq_true h
    exact abv_keeps hx hy (k := 1#64) (by decide) (by show y.toNat + 1 ≤ _; omega)
  · have e : y.toNat ≤ x.toNat := of_decide_eq_true h
    exact abv_keeps hx hy (k := 0#64) (by decide) (by show y.toNat + 0 ≤ _; omega)
  · have e : x.toNat < y.toNat := of_decide_eq_true h
    obtain ⟨k1, k2, k3⟩ := abv_keeps hy hx (k := 1#64) (by decide) (by show x.toNat + 1 ≤ _; omega)
    exact ⟨k1, k3, k2⟩
  · have e : x.toNat ≤ y.toNat := of_decide_eq_true h
    obtain ⟨k1, k2, k3⟩ := abv_keeps hy hx (k := 0#64) (by decide) (by show x.toNat + 0 ≤ _; omega)
    exact ⟨k1, k3, k2⟩
theorem tolQ_less (q : Int) {a b : Sc} (ha : mayX a = true) (hb : mayX b = true) (h : (tolQ q a b).2.2 = true) : Less a b (tolQ q a b) := by
  unfold tolQ at h ⊢
  by_cases h1 : q = 1
  · rw [if_pos h1] at h ⊢
    obtain ⟨k1, k2, k3⟩ := meet_less h
    exact ⟨k1, k2, k1, k3⟩
  rw [if_neg h1] at h ⊢
  by_cases h5 : q = 5
  · rw [if_pos h5] at h ⊢
    rw [Bool.and_eq_true] at h
    obtain ⟨k1, k2⟩ := wth_less ha hb h.1
    obtain ⟨k3, k4⟩ := wth_less hb ha h.2
    exact ⟨k1, k2, k3, k4⟩
  rw [if_neg h5] at h ⊢
  by_cases h2 : q = 2
  · rw [if_pos h2] at h ⊢; exact abv_less ha hb (by decide) h
  rw [if_neg h2] at h ⊢
  by_cases h3 : q = 3
  · rw [if_pos h3] at h ⊢; exact abv_less ha hb (by decide) h
  rw [if_neg h3] at h ⊢
  by_cases h10 : q = 10
  · rw [if_pos h10] at h ⊢
    obtain ⟨k1, k2, k3, k4⟩ := abv_less hb ha (k := 1#64) (by decide) h
    exact ⟨k3, k4, k1, k2⟩
  rw [if_neg h10] at h ⊢
  obtain ⟨k1, k2, k3, k4⟩ := abv_less hb ha (k := 0#64) (by decide) h
  exact ⟨k3, k4, k1, k2⟩
theorem com_keeps {a b : Sc} {x y : B64} (hx : hasB a x) (hy : hasB b y) (k : Bool) (h : (!(x &&& y == 0#64)) = k) : Keep a b x y (comT a b k) := by
  have HX := ((has_iff _ _).1 hx.1).2
  have HY := ((has_iff _ _).1 hy.1).2
  cases k
  · have hz : x &&& y = 0#64 := by
      have : (x &&& y == 0#64) = true := by revert h; cases (x &&& y == 0#64) <;> simp
      exact beq_iff_eq.1 this
    have zb : ∀ i, (bt x i && bt y i) = false := fun i => by rw [← bt_and, hz, bt_zero]
    have hv : ((a.1.1 &&& b.1.1) == 0#64) = true := by
      rw [beq_iff_eq]
      apply b_ext
      intro i hi
      rw [bt_and, bt_zero]
      have := zb i
      have e1 := hs_lo HX i
      have e2 := hs_lo HY i
      revert this e1 e2
      cases bt a.1.1 i <;> cases bt b.1.1 i <;> cases bt x i <;> cases bt y i <;> simp
    unfold comT
    rw [if_neg (by decide), if_neg (by rw [hv]; simp)]
    by_cases hs : singleX b = true
    · rw [if_pos hs]
      have e := single_num hs hy
      have hk : hasB ((a.1.1, a.1.2 &&& ~~~b.2.1), a.2) x := by
        refine ⟨(has_iff _ _).2 ⟨may_of fun i hi => ?_, (hs_iff _ _).2 fun i hi => ?_⟩, hx.2⟩
        · have m := may_bit ((has_iff _ _).1 hx.1).1 i
          show (bt a.1.1 i && bt (a.1.2 &&& ~~~b.2.1) i) = false
          rw [bt_and]
          revert m
          cases bt a.1.1 i <;> cases bt a.1.2 i <;> simp
        · have m := hs_bit HX i hi
          have z := zb i
          show bt a.1.1 i = (bt x i && !bt (a.1.2 &&& ~~~b.2.1) i)
          rw [bt_and, bt_not _ _ hi, ← e]
          revert m z
          cases bt a.1.1 i <;> cases bt a.1.2 i <;> cases bt x i <;> cases bt y i <;> simp
      obtain ⟨k1, k2⟩ := opt_has hk
      exact ⟨k1, k2, hy⟩
    · rw [if_neg hs]
      exact ⟨rfl, hx, hy⟩
  · unfold comT
    rw [if_pos rfl]
    refine ⟨?_, hx, hy⟩
    show (!(((a.1.1 ||| a.1.2) &&& (b.1.1 ||| b.1.2)) == 0#64)) = true
    cases hc : (((a.1.1 ||| a.1.2) &&& (b.1.1 ||| b.1.2)) == 0#64)
    · rfl
    · exfalso
      rw [beq_iff_eq] at hc
      have : x &&& y = 0#64 := b_ext fun i hi => by
        rw [bt_and, bt_zero]
        have e1 := hs_hi HX i
        have e2 := hs_hi HY i
        have e3 : (bt (a.1.1 ||| a.1.2) i && bt (b.1.1 ||| b.1.2) i) = false := by rw [← bt_and, hc, bt_zero]
        revert e1 e2 e3
        cases bt (a.1.1 ||| a.1.2) i <;> cases bt (b.1.1 ||| b.1.2) i <;> cases bt x i <;> cases bt y i <;> simp
      rw [this] at h
      simp at h
theorem com_less {a b : Sc} (ha : mayX a = true) (hb : mayX b = true) (k : Bool) (h : (comT a b k).2.2 = true) : Less a b (comT a b k) := by
  unfold comT at h ⊢
  cases k
  · rw [if_neg (by decide)] at h ⊢
    by_cases hv : ((a.1.1 &&& b.1.1) == 0#64) = true
    · rw [if_neg (fun z => z hv)] at h ⊢
      by_cases hs : singleX b = true
      · rw [if_pos hs] at h ⊢
        obtain ⟨k1, k2⟩ := opt_less h
        refine ⟨k1, leX_trans k2 ⟨?_, Nat.le_refl _, Nat.le_refl _⟩, hb, may_le hb⟩
        have hm := (mayX_parts ha).1
        refine (tin_iff _ _).2 ⟨may_of fun i hi => ?_, hm, fun i hi e => ?_, (hs_iff _ _).2 fun i hi => ?_⟩
        · have m := may_bit hm i
          show (bt a.1.1 i && bt (a.1.2 &&& ~~~b.2.1) i) = false
          rw [bt_and]
          revert m
          cases bt a.1.1 i <;> cases bt a.1.2 i <;> simp
        · have e' : bt (a.1.2 &&& ~~~b.2.1) i = true := e
          rw [bt_and, Bool.and_eq_true] at e'
          exact e'.1
        · have m := may_bit hm i
          show bt a.1.1 i = (bt a.1.1 i && !bt a.1.2 i)
          revert m
          cases bt a.1.1 i <;> cases bt a.1.2 i <;> simp
      · rw [if_neg hs]
        exact ⟨ha, may_le ha, hb, may_le hb⟩
    · rw [if_pos hv] at h; cases h
  · rw [if_pos rfl]
    exact ⟨ha, may_le ha, hb, may_le hb⟩
/-- Refine keeps what there is. -/
theorem ref_keeps {op : Int} (ho : Wd.isCond op = true) (c : Bool) {a b : Sc} (ha : mayX a = true) (hb : mayX b = true) {x y : B64} (hx : hasB a x) (hy : hasB b y) (k : Bool) (h : Wd.condI op c (ub x) (ub y) = k) : Keep a b x y (refT op c a b k) := by
  unfold refT
  rw [if_pos (show refIs op a b from ⟨ho, ha, hb⟩)]
  by_cases hg : ub (mostX op c) < ub (bmax a.2.2 b.2.2)
  · rw [if_pos hg]; exact ⟨rfl, hx, hy⟩
  rw [if_neg hg]
  rw [ub_ltN, bmax_toNat] at hg
  have lx := hx.2.2
  have ly := hy.2.2
  rw [cond_plain ho c x y (by omega) (by omega)] at h
  have hK : Keep a b x y (tolT op a b k) := by
    unfold tolT
    by_cases h4 : unsI op = 4
    · rw [if_pos h4]
      rw [h4] at h
      exact com_keeps hx hy k h
    · rw [if_neg h4]
      have hu : unsI op = 1 ∨ unsI op = 5 ∨ unsI op = 2 ∨ unsI op = 3 ∨ unsI op = 10 ∨ unsI op = 11 := by have := unsI_cases ho; omega
      cases k
      · rw [if_neg (by decide)]
        exact tolQ_keeps (opp_cases hu) ha hb hx hy (by rw [opp_is hu, h]; rfl)
      · rw [if_pos rfl]
        exact tolQ_keeps hu ha hb hx hy h
  rw [if_pos hK.ok]
  exact hK
theorem ref_less {op : Int} {c : Bool} {a b : Sc} {k : Bool} (h : (refT op c a b k).2.2 = true) : Wd.isCond op = true ∧ mayX a = true ∧ mayX b = true ∧ Less a b (refT op c a b k) := by
  unfold refT at h ⊢
  by_cases hi : refIs op a b
  · rw [if_pos hi] at h ⊢
    obtain ⟨ho, ha, hb⟩ := hi
    refine ⟨ho, ha, hb, ?_⟩
    by_cases hg : ub (mostX op c) < ub (bmax a.2.2 b.2.2)
    · rw [if_pos hg]; exact ⟨ha, may_le ha, hb, may_le hb⟩
    · rw [if_neg hg] at h ⊢
      by_cases ht : (tolT op a b k).2.2 = true
      · rw [if_pos ht]
        unfold tolT at ht ⊢
        by_cases h4 : unsI op = 4
        · rw [if_pos h4] at ht ⊢
          exact com_less ha hb k ht
        · rw [if_neg h4] at ht ⊢
          exact tolQ_less _ ha hb ht
      · rw [if_neg ht] at h; cases h
  · rw [if_neg hi] at h; cases h
theorem ref_zero {op : Int} {c : Bool} {a b : Sc} {k : Bool} (h : (refT op c a b k).2.2 = false) : refT op c a b k = (sc0, sc0, false) := by
  unfold refT at h ⊢
  by_cases hi : refIs op a b
  · rw [if_pos hi] at h ⊢
    by_cases hg : ub (mostX op c) < ub (bmax a.2.2 b.2.2)
    · rw [if_pos hg] at h; cases h
    · rw [if_neg hg] at h ⊢
      by_cases ht : (tolT op a b k).2.2 = true
      · rw [if_pos ht] at h; rw [ht] at h; cases h
      · rw [if_neg ht]
  · rw [if_neg hi]
theorem inX_of {a b : Sc} (ha : mayX a = true) (hb : mayX b = true) (h : leX a b) : inX a b = true := by
  unfold inX inSp
  rw [ha, hb, h.1, (mayX_parts ha).2.2, decide_eq_true h.2.1, decide_eq_true h.2.2]
  rfl
end Go.Proofs.Ytebilklcmakhnaa
