/-
  Plain: In goes through Alu, Join, Meet and Cut.
-/
import Derived.Test.YtpeieokmafpaiaaSpMo
import Derived.Test.YtpeieokmafpaiaaSpT
namespace Go.Proofs.Ytpeieokmafpaiaa
set_option linter.unusedSimpArgs false
set_option linter.unusedVariables false
open Go.ChangeShapes Go.WideShapes Go.ChangeAt Go.RowKit

theorem in_iff (a b : Tn) : inSp a b = true ↔ mayS a = true ∧ Sub a b := by
  unfold inSp Sub
  rw [Bool.and_eq_true, Bool.and_eq_true, decide_eq_true_eq, decide_eq_true_eq, and_assoc]
theorem may_iff (a : Tn) : mayS a = true ↔ a.1.toNat ≤ a.2.toNat := decide_eq_true_iff
theorem join_may (a b : Tn) (ha : mayS a = true) : Sub a (joinSp a b) ∧ mayS (joinSp a b) = true := by
  rw [may_iff] at ha ⊢
  unfold joinSp
  rw [if_pos ((may_iff a).2 ha)]
  by_cases hb : mayS b = true
  · rw [if_pos hb]
    rw [may_iff] at hb
    unfold Sub
    dsimp only
    rw [bmin_toNat, bmax_toNat]
    omega
  · rw [if_neg hb]
    exact ⟨⟨Nat.le_refl _, Nat.le_refl _⟩, ha⟩
theorem join_in (a b p q : Tn) (ha : mayS a = true) (hb : mayS b = true) (sa : Sub a p) (sb : Sub b q) : inSp (joinSp a b) (joinSp p q) = true := by
  have hp : mayS p = true := by rw [may_iff] at *; unfold Sub at *; omega
  have hq : mayS q = true := by rw [may_iff] at *; unfold Sub at *; omega
  rw [in_iff]
  refine ⟨(join_may a b ha).2, ?_⟩
  unfold joinSp
  rw [if_pos ha, if_pos hb, if_pos hp, if_pos hq]
  unfold Sub at *
  dsimp only
  rw [bmin_toNat, bmin_toNat, bmax_toNat, bmax_toNat]
  omega
theorem cut_in (a p : Tn) (k : Nat) (hk : k ≤ 64) (ha : mayS a = true) (sa : Sub a p) : inSp (cutK a k) (cutK p k) = true := by
  have hp : mayS p = true := by rw [may_iff] at *; unfold Sub at *; omega
  have ha' := (may_iff a).1 ha
  have hp' := (may_iff p).1 hp
  obtain ⟨c1, _, c3⟩ := cut_ok a k hk ha'
  obtain ⟨d1, d2, d3⟩ := cut_ok p k hk hp'
  rw [in_iff, may_iff]
  refine ⟨c1, ?_⟩
  have hpos := Nat.two_pow_pos k
  by_cases e : a.1 &&& ~~~(1#64 <<< k - 1#64) = a.2 &&& ~~~(1#64 <<< k - 1#64)
  · have v : cutK a k = (a.1 &&& (1#64 <<< k - 1#64), a.2 &&& (1#64 <<< k - 1#64)) := by unfold cutK; rw [if_pos ha, if_pos e]
    have k1 := d3 _ (sa.lies ⟨Nat.le_refl _, ha'⟩)
    have k2 := d3 _ (sa.lies ⟨ha', Nat.le_refl _⟩)
    unfold Sub
    rw [v]
    dsimp only
    rw [low_is _ _ hk, low_is _ _ hk]
    exact ⟨k1.1, k2.2⟩
  · have e2 : ¬ p.1 &&& ~~~(1#64 <<< k - 1#64) = p.2 &&& ~~~(1#64 <<< k - 1#64) := by
      intro h
      apply e
      have h' := congrArg BitVec.toNat h
      apply BitVec.eq_of_toNat_eq
      rw [toNat_high _ _ hk, toNat_high _ _ hk] at h' ⊢
      have q : p.1.toNat / 2 ^ k = p.2.toNat / 2 ^ k := Nat.eq_of_mul_eq_mul_right hpos h'
      have q1 : p.1.toNat / 2 ^ k ≤ a.1.toNat / 2 ^ k := Nat.div_le_div_right sa.1
      have q2 : a.1.toNat / 2 ^ k ≤ a.2.toNat / 2 ^ k := Nat.div_le_div_right ha'
      have q3 : a.2.toNat / 2 ^ k ≤ p.2.toNat / 2 ^ k := Nat.div_le_div_right sa.2
      rw [show a.1.toNat / 2 ^ k = a.2.toNat / 2 ^ k by omega]
    have v : cutK a k = (0#64, 1#64 <<< k - 1#64) := by unfold cutK; rw [if_pos ha, if_neg e]
    have v2 : cutK p k = (0#64, 1#64 <<< k - 1#64) := by unfold cutK; rw [if_pos hp, if_neg e2]
    rw [v, v2]
    exact ⟨Nat.le_refl _, Nat.le_refl _⟩
theorem alu_in (op : Int) (c : Bool) (a b p q : Tn) (h : aluOk op a b) (sa : Sub a p) (sb : Sub b q) : aluOk op p q ∧ inSp (aluT op c a b) (aluT op c p q) = true := by
  obtain ⟨h0, h1, ha, hb⟩ := id h
  have hp : mayS p = true := by rw [may_iff] at *; unfold Sub at *; omega
  have hq : mayS q = true := by rw [may_iff] at *; unfold Sub at *; omega
  have hok : aluOk op p q := ⟨h0, h1, hp, hq⟩
  refine ⟨hok, ?_⟩
  rw [show aluT op c a b = resS op.toNat c (cutK a (sizeW c)) (cutK b (sizeW c)) from if_pos h, show aluT op c p q = resS op.toNat c (cutK p (sizeW c)) (cutK q (sizeW c)) from if_pos hok]
  obtain ⟨a1, a2, _⟩ := cut_ok a (sizeW c) (sizeW_le c) ((may_iff a).1 ha)
  obtain ⟨b1, b2, _⟩ := cut_ok b (sizeW c) (sizeW_le c) ((may_iff b).1 hb)
  obtain ⟨p1, p2, _⟩ := cut_ok p (sizeW c) (sizeW_le c) ((may_iff p).1 hp)
  obtain ⟨q1, q2, _⟩ := cut_ok q (sizeW c) (sizeW_le c) ((may_iff q).1 hq)
  rw [← modW_pow] at a2 b2 p2 q2
  have s1 := ((in_iff _ _).1 (cut_in a p (sizeW c) (sizeW_le c) ha sa)).2
  have s2 := ((in_iff _ _).1 (cut_in b q (sizeW c) (sizeW_le c) hb sb)).2
  obtain ⟨r, _⟩ := res_sound op.toNat (by omega) c _ _ a1 b1 a2 b2
  have k := r _ _ ⟨Nat.le_refl _, a1⟩ ⟨Nat.le_refl _, b1⟩
  rw [in_iff, may_iff]
  exact ⟨Nat.le_trans k.1 k.2, res_mono op.toNat (by omega) c _ _ _ _ a1 b1 s1 s2 p2 q2⟩
theorem meet_in (a b p q : Tn) (sa : Sub a p) (sb : Sub b q) (h : mayS (meetP a b) = true) :
    mayS (meetP p q) = true ∧ inSp (meetS a b) (meetS p q) = true ∧ inSp (meetS a b) a = true ∧ inSp (meetS a b) b = true := by
  have h' := h
  rw [may_iff] at h'
  have e1 : (meetP a b).1.toNat = max a.1.toNat b.1.toNat := bmax_toNat _ _
  have e2 : (meetP a b).2.toNat = min a.2.toNat b.2.toNat := bmin_toNat _ _
  have e3 : (meetP p q).1.toNat = max p.1.toNat q.1.toNat := bmax_toNat _ _
  have e4 : (meetP p q).2.toNat = min p.2.toNat q.2.toNat := bmin_toNat _ _
  have h2 : mayS (meetP p q) = true := by rw [may_iff]; unfold Sub at *; omega
  rw [show meetS a b = meetP a b from if_pos h, show meetS p q = meetP p q from if_pos h2]
  refine ⟨h2, ?_, ?_, ?_⟩
  · rw [in_iff]; refine ⟨h, ?_⟩; unfold Sub at *; omega
  · rw [in_iff]; refine ⟨h, ?_⟩; unfold Sub at *; omega
  · rw [in_iff]; refine ⟨h, ?_⟩; unfold Sub at *; omega
end Go.Proofs.Ytpeieokmafpaiaa
