import Derived.Test.YtodmikjpmcabiaaGreatZSfA
namespace Go.Proofs.YtodmikjpmcabiaaGreat
set_option linter.unusedSimpArgs false
set_option linter.unusedVariables false
set_option maxRecDepth 100000
set_option maxRecDepth 100000
open Go.ChangeShapes Go.WideShapes Go.ChangeAt Go.RowKit

def noT : Sc × Sc × Bool := (sc0, sc0, false)
def finO (X Y : Option Sc) : Sc × Sc × Bool := if (X.isSome && Y.isSome) = true then (optS X, optS Y, true) else noT
def topB : B64 := 18446744073709551615#64
def refQ (q : Int) (a b : Sc) : Sc × Sc × Bool :=
  if q = 1 then finO (meetO a b) (meetO a b)
  else if q = 5 then finO (if singleX b = true then wouO a b.2.1 else some a) (if singleX a = true then wouO b a.2.1 else some b)
  else if q = 2 then (if b.2.1 = topB ∨ a.2.2 = 0#64 then noT else finO (witO a (b.2.1 + 1#64) topB) (witO b 0#64 (a.2.2 - 1#64)))
  else if q = 3 then finO (witO a b.2.1 topB) (witO b 0#64 a.2.2)
  else if q = 10 then (if a.2.1 = topB ∨ b.2.2 = 0#64 then noT else finO (witO a 0#64 (b.2.2 - 1#64)) (witO b (a.2.1 + 1#64) topB))
  else if q = 11 then finO (witO a 0#64 b.2.2) (witO b a.2.1 topB)
  else if q = 4 then (if ((a.1.1 ||| a.1.2) &&& (b.1.1 ||| b.1.2)) = 0#64 then noT else (a, b, true))
  else if (a.1.1 &&& b.1.1) = 0#64 then (if singleX b = true then finO (settle ((a.1.1, a.1.2 - (a.1.2 &&& b.2.1)), a.2)) (some b) else (a, b, true)) else noT
def refH (q0 : Int) (c : Bool) (a b : Sc) : Prop := (c = false ∧ 4294967296 ≤ (bmax a.2.2 b.2.2).toNat) ∨ (unsI q0 ≠ q0 ∧ ((c = true ∧ 9223372036854775808 ≤ (bmax a.2.2 b.2.2).toNat) ∨ (c = false ∧ 2147483648 ≤ (bmax a.2.2 b.2.2).toNat)))
instance (q0 : Int) (c : Bool) (a b : Sc) : Decidable (refH q0 c a b) := by unfold refH; infer_instance
def refR (op : Int) (c : Bool) (a b : Sc) (k : Bool) : Sc × Sc × Bool :=
  if refIs op a b then (if refH (if k = true then op else oppR op) c a b then (a, b, true) else refQ (unsI (if k = true then op else oppR op)) a b) else noT
theorem max_eq (x : B64) : bmax x 0#64 = x := BitVec.eq_of_toNat_eq (by rw [bmax_toNat]; simp)
theorem min_eq (x : B64) : bmin x topB = x := BitVec.eq_of_toNat_eq (by rw [bmin_toNat]; have := x.isLt; simp [topB]; omega)
theorem sub_and (x y : B64) : x - (x &&& y) = x &&& ~~~y := by
  have h : (x &&& ~~~y) + (x &&& y) = x := by
    rw [BitVec.add_eq_or_of_and_eq_zero]
    · apply b_ext
      intro i hi
      rw [bt_or, bt_and, bt_and, bt_not _ _ hi]
      cases bt x i <;> cases bt y i <;> rfl
    · apply b_ext
      intro i hi
      rw [bt_and, bt_and, bt_and, bt_not _ _ hi, bt_zero]
      cases bt x i <;> cases bt y i <;> rfl
  have h2 : (x &&& ~~~y) + (x &&& y) - (x &&& y) = x - (x &&& y) := by rw [h]
  rw [BitVec.add_sub_cancel] at h2
  exact h2.symm
theorem one_of {a : Sc} {n : B64} (ha : mayX a = true) (h : a.2 = (n, n)) : a = ofX n := by
  obtain ⟨h1, h2⟩ := (mayX_iff a).1 ha
  have hh := mayX_hull ha
  rw [h] at hh
  dsimp only at hh
  have he : endsP a = (n, n) := by
    have := congrArg Prod.snd h2
    unfold scN at this
    rw [h] at this
    exact this
  have ht : meetT a.1 (rgX a) = a.1 := congrArg Prod.fst h2
  unfold rgX at ht
  rw [he, rg_one] at ht
  have hm : a.1.2 = 0#64 := by
    have := congrArg Prod.snd ht
    unfold meetT at this
    dsimp only at this
    rw [← this]
    simp
  rw [hm] at hh
  have hv : a.1.1 = n := BitVec.eq_of_toNat_eq (by have h3 := hh.2; rw [BitVec.or_zero] at h3; omega)
  unfold ofX
  rw [← h, ← hm, ← hv]
theorem single_eq {b : Sc} (h : singleX b = true) : b.2 = (b.2.1, b.2.1) := by
  unfold singleX at h
  rw [beq_iff_eq] at h
  exact Prod.ext rfl h.symm
theorem wou_is {a b : Sc} (ha : mayX a = true) (hb : mayX b = true) : (if singleX b = true then wouO a b.2.1 else some a) = wthO a b := by
  unfold wthO
  by_cases hs : singleX b = true
  · rw [if_pos hs]
    unfold wouO
    have hab : (a.2.1 = b.2.1 ∧ a.2.2 = b.2.1) ↔ (a = b ∧ singleX b = true) := by
      constructor
      · rintro ⟨h1, h2⟩
        refine ⟨?_, hs⟩
        rw [one_of ha (n := b.2.1) (Prod.ext h1 h2), one_of hb (single_eq hs)]
        rfl
      · rintro ⟨rfl, _⟩
        have := single_eq hs
        exact ⟨rfl, (congrArg Prod.snd this)⟩
    have hle := (mayX_parts ha).2.1
    by_cases h1 : a.2.1 = b.2.1 ∧ a.2.2 = b.2.1
    · rw [if_pos h1, if_pos (hab.1 h1)]
    · rw [if_neg h1, if_neg (fun q => h1 (hab.2 q))]
      by_cases h2 : a.2.1 = b.2.1
      · rw [if_pos h2, if_pos ⟨hs, h2⟩]
        unfold witO
        have h3 : a.2.2 ≠ b.2.1 := fun q => h1 ⟨h2, q⟩
        have h4 : b.2.1.toNat < a.2.2.toNat := by
          rw [h2] at hle
          rcases Nat.lt_or_ge b.2.1.toNat a.2.2.toNat with q | q
          · exact q
          · exact absurd (BitVec.eq_of_toNat_eq (by omega)) h3
        have e1 : (b.2.1 + 1#64).toNat = b.2.1.toNat + 1 := by
          rw [BitVec.toNat_add]
          have := a.2.2.isLt
          simp
          omega
        congr 2
        unfold meetP
        congr 1
        · apply BitVec.eq_of_toNat_eq
          rw [bmax_toNat, e1, h2]
          omega
        · apply BitVec.eq_of_toNat_eq
          rw [bmin_toNat]
          dsimp only
          omega
      · have e2 : ¬ (singleX b = true ∧ a.2.1 = b.2.1) := fun q => h2 q.2
        rw [if_neg h2, if_neg e2]
        by_cases h3 : a.2.2 = b.2.1
        · have e3 : singleX b = true ∧ a.2.2 = b.2.1 := ⟨hs, h3⟩
          rw [if_pos h3, if_pos e3]
          unfold witO
          have h4 : a.2.1.toNat < b.2.1.toNat := by
            rw [h3] at hle
            rcases Nat.lt_or_ge a.2.1.toNat b.2.1.toNat with q | q
            · exact q
            · exact absurd (BitVec.eq_of_toNat_eq (by omega)) h2
          have e1 : (b.2.1 - 1#64).toNat = b.2.1.toNat - 1 := by
            rw [BitVec.toNat_sub]
            have := b.2.1.isLt
            simp
            omega
          congr 2
          unfold meetP
          congr 1
          · apply BitVec.eq_of_toNat_eq
            rw [bmax_toNat]
            dsimp only
            omega
          · apply BitVec.eq_of_toNat_eq
            rw [bmin_toNat, e1, h3]
            omega
        · have e3 : ¬ (singleX b = true ∧ a.2.2 = b.2.1) := fun q => h3 q.2
          rw [if_neg h3, if_neg e3]
  · have e1 : ¬ (a = b ∧ singleX b = true) := fun q => hs q.2
    have e2 : ¬ (singleX b = true ∧ a.2.1 = b.2.1) := fun q => hs q.1
    have e3 : ¬ (singleX b = true ∧ a.2.2 = b.2.1) := fun q => hs q.1
    rw [if_neg hs, if_neg e1, if_neg e2, if_neg e3]
def tolF (r : Sc × Sc × Bool) : Sc × Sc × Bool := if r.2.2 = true then r else noT
theorem fin_tol (X Y : Option Sc) : finO X Y = tolF (optS X, optS Y, X.isSome && Y.isSome) := by
  unfold finO tolF
  cases X <;> cases Y <;> rfl
theorem fin_swp (X Y : Option Sc) : finO Y X = tolF (swp (optS X, optS Y, X.isSome && Y.isSome)) := by
  unfold finO tolF swp
  cases X <;> cases Y <;> rfl
theorem wit_up (a b : Sc) (n : B64) : witO a n topB = settle (a.1, (bmax a.2.1 n, a.2.2)) := by
  unfold witO meetP
  rw [min_eq]
theorem wit_down (a : Sc) (n : B64) : witO a 0#64 n = settle (a.1, (a.2.1, bmin a.2.2 n)) := by
  unfold witO meetP
  rw [max_eq]
theorem abv_1 (a b : Sc) : abvOk a b 1#64 = true ↔ ¬ (b.2.1 = topB ∨ a.2.2 = 0#64) := by
  unfold abvOk
  simp only [Bool.not_eq_true', Bool.or_eq_false_iff, decide_eq_false_iff_not, not_or]
  have e : (allX.2.2 - 1#64) = 18446744073709551614#64 := by decide
  rw [e]
  unfold ub
  have h1 := b.2.1.isLt
  have h2 := a.2.2.isLt
  constructor
  · rintro ⟨h, k⟩
    refine ⟨fun q => ?_, fun q => ?_⟩
    · rw [q] at h; simp [topB] at h
    · rw [q] at k; simp at k
  · rintro ⟨h, k⟩
    refine ⟨fun q => h (BitVec.eq_of_toNat_eq ?_), fun q => k (BitVec.eq_of_toNat_eq ?_)⟩
    · simp [topB] at q ⊢; omega
    · simp at q ⊢; omega
theorem abv_0 (a b : Sc) : abvOk a b 0#64 = true := by
  unfold abvOk
  have e : (allX.2.2 - 0#64) = 18446744073709551615#64 := by decide
  rw [e]
  unfold ub
  have h1 := b.2.1.isLt
  simp
  omega
theorem tol_q {a b : Sc} (ha : mayX a = true) (hb : mayX b = true) (q : Int) (hq : q = 1 ∨ q = 5 ∨ q = 2 ∨ q = 3 ∨ q = 10 ∨ q = 11) : refQ q a b = tolF (tolQ q a b) := by
  unfold refQ tolQ
  rcases hq with rfl | rfl | rfl | rfl | rfl | rfl <;> simp only [Int.reduceEq, if_true, if_false]
  · rw [fin_tol]
    congr 2
    cases (meetO a b) <;> rfl
  · rw [wou_is ha hb, wou_is hb ha, fin_tol]
  · unfold abvT
    by_cases h : b.2.1 = topB ∨ a.2.2 = 0#64
    · rw [if_pos h, if_neg (fun e => (abv_1 a b).1 e h)]; rfl
    · rw [if_neg h, if_pos ((abv_1 a b).2 h), wit_up a b, wit_down, fin_tol]; rfl
  · unfold abvT
    rw [if_pos (abv_0 a b), wit_up a b, wit_down, fin_tol]
    unfold abvA abvB
    rw [BitVec.add_zero, BitVec.sub_zero]
  · unfold abvT
    by_cases h : a.2.1 = topB ∨ b.2.2 = 0#64
    · rw [if_pos h, if_neg (fun e => (abv_1 b a).1 e h)]; rfl
    · rw [if_neg h, if_pos ((abv_1 b a).2 h), wit_up b a, wit_down, fin_swp]; rfl
  · unfold abvT
    rw [if_pos (abv_0 b a), wit_up b a, wit_down, fin_swp]
    unfold abvA abvB
    rw [BitVec.add_zero, BitVec.sub_zero]
theorem tol_4 (a b : Sc) : refQ 4 a b = tolF (comT a b true) := by
  unfold refQ comT tolF
  simp only [Int.reduceEq, if_true, if_false]
  by_cases h : ((a.1.1 ||| a.1.2) &&& (b.1.1 ||| b.1.2)) = 0#64
  · rw [if_pos h, h]; rfl
  · rw [if_neg h]
    have : (((a.1.1 ||| a.1.2) &&& (b.1.1 ||| b.1.2)) == 0#64) = false := by simpa using h
    rw [this]; rfl
theorem tol_100 (a b : Sc) : refQ 100 a b = tolF (comT a b false) := by
  unfold refQ comT
  simp only [Int.reduceEq, if_false, Bool.false_eq_true]
  by_cases h : (a.1.1 &&& b.1.1) = 0#64
  · have e : ¬ (¬ ((a.1.1 &&& b.1.1) == 0#64) = true) := by rw [h]; simp
    rw [if_pos h, if_neg e]
    cases hs : singleX b
    · simp only [Bool.false_eq_true, if_false]; rfl
    · simp only [if_true]
      rw [fin_tol, sub_and]
      unfold tolF
      cases settle ((a.1.1, a.1.2 &&& ~~~b.2.1), a.2) <;> rfl
  · have e : ¬ ((a.1.1 &&& b.1.1) == 0#64) = true := by simpa using h
    rw [if_neg h, if_pos e]; rfl
theorem cond_ops {op : Int} (h : Wd.isCond op = true) : op = 1 ∨ op = 5 ∨ op = 2 ∨ op = 3 ∨ op = 10 ∨ op = 11 ∨ op = 4 ∨ op = 6 ∨ op = 7 ∨ op = 12 ∨ op = 13 := by
  unfold Wd.isCond at h
  simp only [Bool.or_eq_true, beq_iff_eq] at h
  omega
theorem high_is (op : Int) (h : Wd.isCond op = true) (k c : Bool) (a b : Sc) : refH (if k = true then op else oppR op) c a b ↔ ub (mostX op c) < ub (bmax a.2.2 b.2.2) := by
  have hM := (bmax a.2.2 b.2.2).isLt
  unfold refH
  generalize bmax a.2.2 b.2.2 = M at *
  rcases cond_ops h with rfl | rfl | rfl | rfl | rfl | rfl | rfl | rfl | rfl | rfl | rfl <;> cases k <;> cases c <;> simp [mostX, unsI, oppR, ub, topW] <;> omega
theorem refR_is (op : Int) (c : Bool) (a b : Sc) (k : Bool) : refR op c a b k = refT op c a b k := by
  unfold refR refT
  by_cases h : refIs op a b
  · rw [if_pos h, if_pos h]
    obtain ⟨h1, h2, h3⟩ := h
    by_cases hh : ub (mostX op c) < ub (bmax a.2.2 b.2.2)
    · rw [if_pos hh, if_pos ((high_is op h1 k c a b).2 hh)]
    · rw [if_neg hh, if_neg (fun q => hh ((high_is op h1 k c a b).1 q))]
      change _ = tolF (tolT op a b k)
      unfold tolT
      rcases cond_ops h1 with rfl | rfl | rfl | rfl | rfl | rfl | rfl | rfl | rfl | rfl | rfl <;> cases k <;> simp only [unsI, oppR, oppI, Int.reduceEq, if_true, if_false, Bool.false_eq_true] <;> first | exact tol_q h2 h3 _ (by decide) | exact tol_4 a b | exact tol_100 a b
  · rw [if_neg h, if_neg h]; rfl
end Go.Proofs.YtodmikjpmcabiaaGreat
