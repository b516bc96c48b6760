/-
  Plain: the document's sums, products, quotients and shifts of spans are the code's.
-/
import Derived.Test.YtjcnpjidkimldaaASpQ
namespace Go.Proofs.Ytjcnpjidkimldaa
set_option linter.unusedSimpArgs false
set_option linter.unusedVariables false
set_option maxRecDepth 100000
open Go.RowKit

namespace Sq
def docSum (c : Bool) (a b : Tn) : Tn :=
  if decide ((topW c - b.1).toNat < a.1.toNat) = decide ((topW c - b.2).toNat < a.2.toNat) then ((a.1 + b.1) &&& topW c, (a.2 + b.2) &&& topW c) else (0#64, topW c)
theorem sum_doc (c : Bool) (a b : Tn) (ha : a.1.toNat ≤ a.2.toNat) (hb : b.1.toNat ≤ b.2.toNat) (la : a.2.toNat < modW c) (lb : b.2.toNat < modW c) : docSum c a b = sumS c a b := by
  have hT := topW_toNat c
  have hF : ((a.1 + b.1) &&& topW c).toNat = (a.1.toNat + b.1.toNat) % modW c := by
    rw [and_top, add64]
    rcases modW_two c with h | h <;> rw [h] <;> omega
  have hG : ((a.2 + b.2) &&& topW c).toNat = (a.2.toNat + b.2.toNat) % modW c := by
    rw [and_top, add64]
    rcases modW_two c with h | h <;> rw [h] <;> omega
  have g1 : (a.2 - a.1).toNat = a.2.toNat - a.1.toNat := width a ha
  have g2 : (b.2 - b.1).toNat = b.2.toNat - b.1.toNat := width b hb
  have hD : (topW c - ((a.1 + b.1) &&& topW c)).toNat = modW c - 1 - (a.1.toNat + b.1.toNat) % modW c := by
    rw [sub64, hT, hF]
    rcases modW_two c with h | h <;> rw [h] <;> omega
  have hm : ((a.2 - a.1) + (b.2 - b.1)).toNat = (a.2.toNat - a.1.toNat + (b.2.toNat - b.1.toNat)) % 18446744073709551616 := by rw [add64, g1, g2]
  have d1 : (topW c - b.1).toNat = modW c - 1 - b.1.toNat := by
    have q : b.1.toNat < modW c := by omega
    rw [sub64, hT]
    clear hT hF hG g1 g2 hD hm
    rcases modW_two c with h | h <;> rw [h] at q ⊢ <;> omega
  have d2 : (topW c - b.2).toNat = modW c - 1 - b.2.toNat := by
    have q : b.2.toNat < modW c := by omega
    rw [sub64, hT]
    clear hT hF hG g1 g2 hD hm
    rcases modW_two c with h | h <;> rw [h] at q ⊢ <;> omega
  unfold docSum sumS
  rw [d1, d2, hD, hm, g1, g2]
  have l1 := a.2.isLt
  have l2 := b.2.isLt
  by_cases hc : 18446744073709551616 ≤ a.2.toNat - a.1.toNat + (b.2.toNat - b.1.toNat) ∨ modW c - 1 - (a.1.toNat + b.1.toNat) % modW c < (a.2.toNat - a.1.toNat + (b.2.toNat - b.1.toNat)) % 18446744073709551616
  · rw [if_pos hc, if_neg]
    rw [decide_eq_decide]
    clear hT hF hG g1 g2 hD hm d1 d2
    have hw := modW_two c
    generalize modW c = M at *
    rcases hw with rfl | rfl <;> omega
  · rw [if_neg hc, if_pos]
    · congr 1
      apply BitVec.eq_of_toNat_eq
      rw [hG, add64, hF, hm]
      clear hT hF hG g1 g2 hD hm d1 d2
      have hw := modW_two c
      generalize modW c = M at *
      rcases hw with rfl | rfl <;> omega
    · rw [decide_eq_decide]
      clear hT hF hG g1 g2 hD hm d1 d2
      have hw := modW_two c
      generalize modW c = M at *
      rcases hw with rfl | rfl <;> omega
def docProd (c : Bool) (a b : Tn) : Tn := if decide ((topW c).toNat < a.2.toNat * b.2.toNat) = true then (0#64, topW c) else (a.1 * b.1, a.2 * b.2)
theorem prod_doc (c : Bool) (a b : Tn) : docProd c a b = prodS c a b := by
  unfold docProd prodS
  have hT := (topW c).isLt
  by_cases h : 18446744073709551616 ≤ a.2.toNat * b.2.toNat
  · rw [if_pos (decide_eq_true (by omega)), if_pos (Or.inl h)]
  · have e : (a.2 * b.2).toNat = a.2.toNat * b.2.toNat := by rw [BitVec.toNat_mul]; exact Nat.mod_eq_of_lt (by omega)
    by_cases h2 : (topW c).toNat < a.2.toNat * b.2.toNat
    · rw [if_pos (decide_eq_true h2), if_pos (Or.inr (by rw [e]; exact h2))]
    · rw [if_neg (by simpa using h2), if_neg (by rw [e]; omega)]
def docQuot (a b : Tn) : Tn := (if b.1 = 0#64 then 0#64 else a.1 / b.2, if b.1 = 0#64 then (if b.2 = 0#64 then 0#64 else a.2) else a.2 / b.1)
theorem quot_doc (a b : Tn) (hb : b.1.toNat ≤ b.2.toNat) : docQuot a b = quotS a b := by
  unfold docQuot quotS
  by_cases h2 : b.2 = 0#64
  · have h1 : b.1 = 0#64 := by
      apply BitVec.eq_of_toNat_eq
      rw [h2] at hb
      have : (0#64 : B64).toNat = 0 := rfl
      omega
    rw [if_pos h1, if_pos h1, if_pos h2, if_pos h2]
  · rw [if_neg h2, if_neg h2]
    by_cases h1 : b.1 = 0#64
    · rw [if_pos h1, if_pos h1, if_pos h1]
    · rw [if_neg h1, if_neg h1, if_neg h1]
/-- The least and the greatest of numbers, one by one. -/
def mm (s : Tn) (x : B64) : Tn := (bmin s.1 x, bmax s.2 x)
def shF (f : Nat → List B64) (T : B64) (c : Nat) : Nat → Tn
  | 0 => (T, 0#64)
  | n + 1 => (f (c + n)).foldl mm (shF f T c n)
theorem mm_fold : ∀ (l : List B64) (s : Tn), ((l.foldl mm s).1.toNat ≤ s.1.toNat ∧ s.2.toNat ≤ (l.foldl mm s).2.toNat) ∧ (∀ x ∈ l, (l.foldl mm s).1.toNat ≤ x.toNat ∧ x.toNat ≤ (l.foldl mm s).2.toNat) ∧
    ((l.foldl mm s).1 = s.1 ∨ ∃ x ∈ l, (l.foldl mm s).1 = x) ∧ ((l.foldl mm s).2 = s.2 ∨ ∃ x ∈ l, (l.foldl mm s).2 = x)
  | [], s => by
    refine ⟨⟨Nat.le_refl _, Nat.le_refl _⟩, ?_, .inl rfl, .inl rfl⟩
    intro x hx; cases hx
  | y :: l, s => by
    obtain ⟨⟨h1, h2⟩, h3, h4, h5⟩ := mm_fold l (mm s y)
    have e1 := bmin_toNat s.1 y
    have e2 := bmax_toNat s.2 y
    have e3 : (mm s y).1 = bmin s.1 y := rfl
    have e4 : (mm s y).2 = bmax s.2 y := rfl
    rw [e3, e1] at h1
    rw [e4, e2] at h2
    show ((l.foldl mm (mm s y)).1.toNat ≤ s.1.toNat ∧ s.2.toNat ≤ (l.foldl mm (mm s y)).2.toNat) ∧ (∀ x ∈ y :: l, (l.foldl mm (mm s y)).1.toNat ≤ x.toNat ∧ x.toNat ≤ (l.foldl mm (mm s y)).2.toNat) ∧
      ((l.foldl mm (mm s y)).1 = s.1 ∨ ∃ x ∈ y :: l, (l.foldl mm (mm s y)).1 = x) ∧ ((l.foldl mm (mm s y)).2 = s.2 ∨ ∃ x ∈ y :: l, (l.foldl mm (mm s y)).2 = x)
    refine ⟨⟨by omega, by omega⟩, fun x hx => ?_, ?_, ?_⟩
    · rcases List.mem_cons.1 hx with rfl | hx
      · omega
      · exact h3 x hx
    · rcases h4 with h4 | ⟨x, hx, h4⟩
      · rw [h4, e3]
        unfold bmin
        split
        · exact .inl rfl
        · exact .inr ⟨y, List.mem_cons_self, rfl⟩
      · exact .inr ⟨x, List.mem_cons_of_mem _ hx, h4⟩
    · rcases h5 with h5 | ⟨x, hx, h5⟩
      · rw [h5, e4]
        unfold bmax
        split
        · exact .inr ⟨y, List.mem_cons_self, rfl⟩
        · exact .inl rfl
      · exact .inr ⟨x, List.mem_cons_of_mem _ hx, h5⟩
theorem shF_ok (f : Nat → List B64) (T : B64) (c : Nat) : ∀ n, ((shF f T c n).1.toNat ≤ T.toNat ∧ 0 ≤ (shF f T c n).2.toNat) ∧ (∀ j, j < n → ∀ x ∈ f (c + j), (shF f T c n).1.toNat ≤ x.toNat ∧ x.toNat ≤ (shF f T c n).2.toNat) ∧
    ((shF f T c n).1 = T ∨ ∃ j, j < n ∧ ∃ x ∈ f (c + j), (shF f T c n).1 = x) ∧ ((shF f T c n).2 = 0#64 ∨ ∃ j, j < n ∧ ∃ x ∈ f (c + j), (shF f T c n).2 = x)
  | 0 => ⟨⟨Nat.le_refl _, Nat.zero_le _⟩, fun j hj => by omega, .inl rfl, .inl rfl⟩
  | n + 1 => by
    obtain ⟨⟨h1, h2⟩, h3, h4, h5⟩ := shF_ok f T c n
    obtain ⟨⟨k1, k2⟩, k3, k4, k5⟩ := mm_fold (f (c + n)) (shF f T c n)
    show (((f (c + n)).foldl mm (shF f T c n)).1.toNat ≤ T.toNat ∧ 0 ≤ ((f (c + n)).foldl mm (shF f T c n)).2.toNat) ∧ (∀ j, j < n + 1 → ∀ x ∈ f (c + j), ((f (c + n)).foldl mm (shF f T c n)).1.toNat ≤ x.toNat ∧ x.toNat ≤ ((f (c + n)).foldl mm (shF f T c n)).2.toNat) ∧
      (((f (c + n)).foldl mm (shF f T c n)).1 = T ∨ ∃ j, j < n + 1 ∧ ∃ x ∈ f (c + j), ((f (c + n)).foldl mm (shF f T c n)).1 = x) ∧ (((f (c + n)).foldl mm (shF f T c n)).2 = 0#64 ∨ ∃ j, j < n + 1 ∧ ∃ x ∈ f (c + j), ((f (c + n)).foldl mm (shF f T c n)).2 = x)
    generalize (f (c + n)).foldl mm (shF f T c n) = R at *
    refine ⟨⟨by omega, Nat.zero_le _⟩, fun j hj x hx => ?_, ?_, ?_⟩
    · by_cases e : j = n
      · subst e; exact k3 x hx
      · have := h3 j (by omega) x hx; omega
    · rcases k4 with k4 | ⟨x, hx, k4⟩
      · rcases h4 with h4 | ⟨j, hj, x, hx, h4⟩
        · exact .inl (k4.trans h4)
        · exact .inr ⟨j, by omega, x, hx, k4.trans h4⟩
      · exact .inr ⟨n, by omega, x, hx, k4⟩
    · rcases k5 with k5 | ⟨x, hx, k5⟩
      · rcases h5 with h5 | ⟨j, hj, x, hx, h5⟩
        · exact .inl (k5.trans h5)
        · exact .inr ⟨j, by omega, x, hx, k5.trans h5⟩
      · exact .inr ⟨n, by omega, x, hx, k5⟩
/-- Both ends are known when they are among the numbers and bound them. -/
theorem shF_is {f : Nat → List B64} {T : B64} {c n : Nat} {r : Tn} (h1 : ∃ j, j < n ∧ r.1 ∈ f (c + j)) (h2 : ∃ j, j < n ∧ r.2 ∈ f (c + j))
    (h3 : ∀ j, j < n → ∀ x ∈ f (c + j), r.1.toNat ≤ x.toNat ∧ x.toNat ≤ r.2.toNat ∧ x.toNat ≤ T.toNat) : shF f T c n = r := by
  obtain ⟨⟨k1, k2⟩, k3, k4, k5⟩ := shF_ok f T c n
  obtain ⟨j1, l1, m1⟩ := h1
  obtain ⟨j2, l2, m2⟩ := h2
  have e1 := (k3 j1 l1 _ m1).1
  have e2 := (k3 j2 l2 _ m2).2
  have e3 := (h3 j1 l1 _ m1).2.2
  generalize shF f T c n = R at *
  have q1 : R.1.toNat = r.1.toNat := by
    rcases k4 with k4 | ⟨j, hj, x, hx, k4⟩
    · rw [k4] at e1 ⊢; omega
    · have := (h3 j hj x hx).1; rw [k4] at e1 ⊢; omega
  have q2 : R.2.toNat = r.2.toNat := by
    rcases k5 with k5 | ⟨j, hj, x, hx, k5⟩
    · have : (0#64 : B64).toNat = 0 := rfl
      rw [k5] at e2 ⊢; omega
    · have := (h3 j hj x hx).2.1; rw [k5] at e2 ⊢; omega
  exact Prod.ext (BitVec.eq_of_toNat_eq q1) (BitVec.eq_of_toNat_eq q2)
theorem sh_up {a : Tn} {T : B64} (ha : a.1.toNat ≤ a.2.toNat) {c d : Nat} (hcd : c ≤ d) (hd : d < 64) (ht : a.2.toNat * 2 ^ d ≤ T.toNat) :
    shF (fun k => [a.1 * (1#64 <<< k), a.2 * (1#64 <<< k)]) T c (d - c + 1) = (a.1 * (1#64 <<< c), a.2 * (1#64 <<< d)) := by
  have lT := T.isLt
  have v : ∀ x : B64, ∀ k, x.toNat ≤ a.2.toNat → k ≤ d → (x * (1#64 <<< k)).toNat = x.toNat * 2 ^ k ∧ x.toNat * 2 ^ k ≤ T.toNat := by
    intro x k hx hk
    have h1 : x.toNat * 2 ^ k ≤ a.2.toNat * 2 ^ d := Nat.mul_le_mul hx (Nat.pow_le_pow_right (by decide) hk)
    refine ⟨?_, by omega⟩
    rw [BitVec.toNat_mul, toNat_bit k (by omega)]
    exact Nat.mod_eq_of_lt (by omega)
  refine shF_is ⟨0, by omega, by simp⟩ ⟨d - c, by omega, ?_⟩ ?_
  · rw [show c + (d - c) = d by omega]; simp
  · intro j hj x hx
    have vc := (v a.1 c ha hcd).1
    have vd := (v a.2 d (Nat.le_refl _) (Nat.le_refl _)).1
    have p1 : 2 ^ c ≤ 2 ^ (c + j) := Nat.pow_le_pow_right (by decide) (by omega)
    have p2 : 2 ^ (c + j) ≤ 2 ^ d := Nat.pow_le_pow_right (by decide) (by omega)
    dsimp only
    rw [vc, vd]
    simp only [List.mem_cons, List.not_mem_nil, or_false] at hx
    rcases hx with rfl | rfl
    · obtain ⟨e, l⟩ := v a.1 (c + j) ha (by omega)
      rw [e]
      exact ⟨Nat.mul_le_mul (Nat.le_refl _) p1, Nat.mul_le_mul ha p2, l⟩
    · obtain ⟨e, l⟩ := v a.2 (c + j) (Nat.le_refl _) (by omega)
      rw [e]
      exact ⟨Nat.mul_le_mul ha p1, Nat.mul_le_mul (Nat.le_refl _) p2, l⟩
theorem sh_down {a : Tn} {T : B64} (ha : a.1.toNat ≤ a.2.toNat) {c d : Nat} (hcd : c ≤ d) (hd : d < 64) (ht : a.2.toNat ≤ T.toNat) :
    shF (fun k => [a.1 / (1#64 <<< k), a.2 / (1#64 <<< k)]) T c (d - c + 1) = (a.1 / (1#64 <<< d), a.2 / (1#64 <<< c)) := by
  have v : ∀ x : B64, ∀ k, k ≤ d → (x / (1#64 <<< k)).toNat = x.toNat / 2 ^ k := by
    intro x k hk
    rw [BitVec.toNat_udiv, toNat_bit k (by omega)]
  refine shF_is ⟨d - c, by omega, ?_⟩ ⟨0, by omega, by simp⟩ ?_
  · rw [show c + (d - c) = d by omega]; simp
  · intro j hj x hx
    have p1 : 2 ^ c ≤ 2 ^ (c + j) := Nat.pow_le_pow_right (by decide) (by omega)
    have p2 : 2 ^ (c + j) ≤ 2 ^ d := Nat.pow_le_pow_right (by decide) (by omega)
    dsimp only
    rw [v _ d (Nat.le_refl _), v _ c hcd]
    have q1 : a.1.toNat / 2 ^ d ≤ a.1.toNat / 2 ^ (c + j) := Nat.div_le_div_left p2 (Nat.two_pow_pos _)
    have q2 : a.2.toNat / 2 ^ (c + j) ≤ a.2.toNat / 2 ^ c := Nat.div_le_div_left p1 (Nat.two_pow_pos _)
    have q3 : a.1.toNat / 2 ^ (c + j) ≤ a.2.toNat / 2 ^ (c + j) := Nat.div_le_div_right ha
    have q4 := Nat.div_le_self a.2.toNat (2 ^ c)
    simp only [List.mem_cons, List.not_mem_nil, or_false] at hx
    rcases hx with rfl | rfl
    · rw [v _ _ (by omega)]; omega
    · rw [v _ _ (by omega)]; omega
/-- Shifts with the sign: dr x k is the number x shifted by k. -/
theorem sh_sign {w : Bool} {a : Tn} {dr : B64 → Nat → B64} (hdr : ∀ x k, x.toNat < modW w → k < 64 → (dr x k).toNat = drawN w x.toNat k) (ha : a.1.toNat ≤ a.2.toNat) (la : a.2.toNat < modW w) {c d : Nat} (hcd : c ≤ d) (hd : d < 64)
    {h0 h1 : B64} (e0 : h0.toNat = modW w / 2 - 1) (e1 : h1.toNat = modW w / 2) :
    shF (fun k => [dr a.1 k, dr a.2 k] ++ (if a.1.toNat < modW w / 2 ∧ modW w / 2 ≤ a.2.toNat then [dr h0 k, dr h1 k] else [])) (topW w) c (d - c + 1) = (drawB w a.1 d c, drawB w a.2 c d) := by
  have v1 := draw_view w a.1 d c (by omega) hd (by omega)
  have v2 := draw_view w a.2 c d la (by omega) hd
  have hT := topW_toNat w
  have hM : 2 ≤ modW w ∧ modW w % 2 = 0 := by rcases modW_two w with h | h <;> rw [h] <;> decide
  have m1 : ∃ j, j < d - c + 1 ∧ drawB w a.1 d c ∈ [dr a.1 (c + j), dr a.2 (c + j)] ++ (if a.1.toNat < modW w / 2 ∧ modW w / 2 ≤ a.2.toNat then [dr h0 (c + j), dr h1 (c + j)] else []) := by
    by_cases q : a.1.toNat < modW w / 2
    · refine ⟨d - c, by omega, List.mem_append_left _ ?_⟩
      have : drawB w a.1 d c = dr a.1 (c + (d - c)) := by
        apply BitVec.eq_of_toNat_eq
        rw [v1, hdr _ _ (by omega) (by omega), show c + (d - c) = d by omega, if_pos q]
        unfold drawN; rw [if_pos q]
      rw [this]; exact List.mem_cons_self
    · refine ⟨0, by omega, List.mem_append_left _ ?_⟩
      have : drawB w a.1 d c = dr a.1 (c + 0) := by
        apply BitVec.eq_of_toNat_eq
        rw [v1, hdr _ _ (by omega) (by omega), if_neg q]
        unfold drawN; rw [if_neg q]; rfl
      rw [this]; exact List.mem_cons_self
  have m2 : ∃ j, j < d - c + 1 ∧ drawB w a.2 c d ∈ [dr a.1 (c + j), dr a.2 (c + j)] ++ (if a.1.toNat < modW w / 2 ∧ modW w / 2 ≤ a.2.toNat then [dr h0 (c + j), dr h1 (c + j)] else []) := by
    by_cases q : a.2.toNat < modW w / 2
    · refine ⟨0, by omega, List.mem_append_left _ ?_⟩
      have : drawB w a.2 c d = dr a.2 (c + 0) := by
        apply BitVec.eq_of_toNat_eq
        rw [v2, hdr _ _ la (by omega), if_pos q]
        unfold drawN; rw [if_pos q]; rfl
      rw [this]; exact List.mem_cons_of_mem _ List.mem_cons_self
    · refine ⟨d - c, by omega, List.mem_append_left _ ?_⟩
      have : drawB w a.2 c d = dr a.2 (c + (d - c)) := by
        apply BitVec.eq_of_toNat_eq
        rw [v2, hdr _ _ la (by omega), show c + (d - c) = d by omega, if_neg q]
        unfold drawN; rw [if_neg q]
      rw [this]; exact List.mem_cons_of_mem _ List.mem_cons_self
  refine shF_is m1 m2 ?_
  intro j hj x hx
  clear m1 m2
  have bound : ∀ y, y.toNat < modW w → a.1.toNat ≤ y.toNat → y.toNat ≤ a.2.toNat → (drawB w a.1 d c).toNat ≤ (dr y (c + j)).toNat ∧ (dr y (c + j)).toNat ≤ (drawB w a.2 c d).toNat ∧ (dr y (c + j)).toNat ≤ (topW w).toNat := by
    intro y ly y1 y2
    rw [v1, v2, hdr _ _ ly (by omega), hT]
    unfold drawN
    have k0 := Nat.two_pow_pos (c + j)
    have pc := Nat.two_pow_pos c
    have p1 : 2 ^ c ≤ 2 ^ (c + j) := Nat.pow_le_pow_right (by decide) (by omega)
    have p2 : 2 ^ (c + j) ≤ 2 ^ d := Nat.pow_le_pow_right (by decide) (by omega)
    generalize y.toNat = Y at *
    generalize a.1.toNat = A at *
    generalize a.2.toNat = B at *
    generalize modW w = M at *
    have s1 : Y / 2 ^ (c + j) ≤ Y := Nat.div_le_self _ _
    have s2 : A / 2 ^ d ≤ A := Nat.div_le_self _ _
    have s3 : (M - 1 - A) / 2 ^ c ≤ M - 1 - A := Nat.div_le_self _ _
    have s4 : B / 2 ^ c ≤ B := Nat.div_le_self _ _
    have s5 : (M - 1 - B) / 2 ^ d ≤ M - 1 - B := Nat.div_le_self _ _
    have s6 : (M - 1 - Y) / 2 ^ (c + j) ≤ M - 1 - Y := Nat.div_le_self _ _
    have t1 : A / 2 ^ d ≤ Y / 2 ^ (c + j) := Nat.le_trans (Nat.div_le_div_right y1) (Nat.div_le_div_left p2 k0)
    have t2 : Y / 2 ^ (c + j) ≤ B / 2 ^ c := Nat.le_trans (Nat.div_le_div_right y2) (Nat.div_le_div_left p1 pc)
    have t3 : (M - 1 - Y) / 2 ^ (c + j) ≤ (M - 1 - A) / 2 ^ c := Nat.le_trans (Nat.div_le_div_right (by omega)) (Nat.div_le_div_left p1 pc)
    have t4 : (M - 1 - B) / 2 ^ d ≤ (M - 1 - Y) / 2 ^ (c + j) := Nat.le_trans (Nat.div_le_div_right (by omega)) (Nat.div_le_div_left p2 k0)
    clear v1 v2 hT e0 e1 k0 pc p1 p2 hdr
    generalize Y / 2 ^ (c + j) = u1 at *
    generalize (M - 1 - Y) / 2 ^ (c + j) = u2 at *
    generalize A / 2 ^ d = u3 at *
    generalize (M - 1 - A) / 2 ^ c = u4 at *
    generalize B / 2 ^ c = u5 at *
    generalize (M - 1 - B) / 2 ^ d = u6 at *
    by_cases c1 : A < M / 2 <;> by_cases c2 : Y < M / 2 <;> by_cases c3 : B < M / 2 <;> simp only [if_pos, if_neg, c1, c2, c3, if_true, if_false, not_false_eq_true] <;> omega
  rcases List.mem_append.1 hx with hx | hx
  · simp only [List.mem_cons, List.not_mem_nil, or_false] at hx
    rcases hx with rfl | rfl
    · exact bound a.1 (by omega) (Nat.le_refl _) ha
    · exact bound a.2 la ha (Nat.le_refl _)
  · split at hx
    · rename_i hh
      simp only [List.mem_cons, List.not_mem_nil, or_false] at hx
      rcases hx with rfl | rfl
      · exact bound h0 (by omega) (by omega) (by omega)
      · exact bound h1 (by omega) (by omega) (by omega)
    · cases hx
end Sq
end Go.Proofs.Ytjcnpjidkimldaa
