/-
  Plain: one number each.
-/
import Derived.Test.YtoanbjnhoggpjaaSpMo
import Derived.Test.YtoanbjnhoggpjaaSpT
namespace Go.Proofs.Ytoanbjnhoggpjaa
set_option linter.unusedSimpArgs false
set_option linter.unusedVariables false
set_option maxRecDepth 100000
open Go.ChangeShapes Go.WideShapes Go.ChangeAt Go.RowKit

theorem cut_single (x : B64) (c : Bool) : (cutK (x, x) (sizeW c)).1 = (cutK (x, x) (sizeW c)).2 := by
  unfold cutK
  rw [if_pos (show mayS (x, x) = true from decide_eq_true (Nat.le_refl _)), if_pos rfl]
theorem res_one (op : Nat) (hop : op ≤ 12) (c : Bool) (a b : Tn) (ha : a.1 = a.2) (hb : b.1 = b.2) (la : a.2.toNat < modW c) (lb : b.2.toNat < modW c) :
    (resS op c a b).1.toNat = (resS op c a b).2.toNat ∨ ((op = 2 ∨ op = 6) ∧ resS op c a b = (0#64, topW c)) := by
  have ha' : a.1.toNat = a.2.toNat := by rw [ha]
  have hb' : b.1.toNat = b.2.toNat := by rw [hb]
  have one : ∀ {s : Tn} {x : Nat}, s.1.toNat = s.2.toNat → Lies s x → x = s.2.toNat := by
    intro s x hs hx; unfold Lies at hx; omega
  obtain ⟨c1, c2, c3⟩ := count_ok c b (Nat.le_of_eq hb')
  have hs := sizeW_le c
  have cc : (countS c b).1.toNat = (countS c b).2.toNat := by
    have hwd := width b (Nat.le_of_eq hb')
    have h3 : (sizeB c - 1#64).toNat = sizeW c - 1 := by cases c <;> rfl
    have hz : sizeW c = 64 ∨ sizeW c = 32 := by cases c <;> simp [sizeW]
    have hn : ¬ ((sizeB c - 1#64).toNat ≤ (b.2 - b.1).toNat ∨ (b.2 % sizeB c).toNat < (b.1 % sizeB c).toNat) := by rw [h3, hwd, hb]; omega
    rw [show countS c b = (b.1 % sizeB c, b.2 % sizeB c) from if_neg hn]
    dsimp only
    rw [hb]
  by_cases ht : op ≤ 11 ∧ op ≠ 2 ∧ op ≠ 6 ∧ op ≠ 7 ∧ op ≠ 9
  · left
    obtain ⟨⟨x, y, hx, hy, e⟩, ⟨x2, y2, hx2, hy2, e2⟩⟩ := res_tight op ht.1 c a b (Nat.le_of_eq ha') (Nat.le_of_eq hb') la lb ht.2
    rw [← e, ← e2, one ha' hx, one ha' hx2, one hb' hy, one hb' hy2]
  · obtain rfl | rfl | rfl | rfl | rfl : op = 2 ∨ op = 6 ∨ op = 7 ∨ op = 9 ∨ op = 12 := by omega
    · rcases prod_view c a b (Nat.le_of_eq ha') (Nat.le_of_eq hb') with ⟨_, h⟩ | ⟨_, h1, h2⟩
      · exact .inr ⟨.inl rfl, h⟩
      · left
        show (prodS c a b).1.toNat = (prodS c a b).2.toNat
        rw [h1, h2, ha', hb']
    · have hp : (powS (countS c b)).1.toNat = (powS (countS c b)).2.toNat := by
        obtain ⟨p1, p2⟩ := powS_toNat (countS c b) (by omega) (by omega)
        rw [p1, p2, cc]
      rcases prod_view c a (powS (countS c b)) (Nat.le_of_eq ha') (Nat.le_of_eq hp) with ⟨_, h⟩ | ⟨_, h1, h2⟩
      · exact .inr ⟨.inr rfl, h⟩
      · left
        show (prodS c a (powS (countS c b))).1.toNat = (prodS c a (powS (countS c b))).2.toNat
        rw [h1, h2, ha', hp]
    · left
      have hp : (powS (countS c b)).1.toNat = (powS (countS c b)).2.toNat := by
        obtain ⟨p1, p2⟩ := powS_toNat (countS c b) (by omega) (by omega)
        rw [p1, p2, cc]
      obtain ⟨_, _, ⟨x, y, hx, hy, e⟩, ⟨x2, y2, hx2, hy2, e2⟩⟩ := quot_sound a (powS (countS c b)) (Nat.le_of_eq ha') (Nat.le_of_eq hp)
      show (quotS a (powS (countS c b))).1.toNat = (quotS a (powS (countS c b))).2.toNat
      rw [← e, ← e2, one ha' hx, one ha' hx2, one hp hy, one hp hy2]
    · left
      show (restS a b).1.toNat = (restS a b).2.toNat
      rcases rest_view a b with ⟨_, h1, h2⟩ | ⟨_, _, _, _, h1, h2⟩ | ⟨_, _, h, _⟩
      · rw [h1, h2, ha']
      · rw [h1, h2, ha']
      · exact absurd ⟨hb', by rw [ha']⟩ h
    · left
      obtain ⟨_, ⟨x, k, hx, hk, e⟩, ⟨x2, k2, hx2, hk2, e2⟩⟩ := sign_sound c a (countS c b) (Nat.le_of_eq ha') la c3 (by omega)
      show (signS c a (countS c b)).1.toNat = (signS c a (countS c b)).2.toNat
      rw [← e, ← e2, one ha' hx, one ha' hx2, one cc hk, one cc hk2]
theorem alu_one (op : Int) (c : Bool) (X Y : B64) :
    ((op < 0 ∨ 12 < op) → aluE op (X, X) (Y, Y) = 1) ∧
    (¬ op < 0 → ¬ 12 < op → aluE op (X, X) (Y, Y) = 0 ∧ (aluT op c (X, X) (Y, Y) = (oneB op.toNat c X Y, oneB op.toNat c X Y) ∨
      (aluT op c (X, X) (Y, Y) ≠ (oneB op.toNat c X Y, oneB op.toNat c X Y) ∧ (op = 2 ∨ op = 6) ∧ aluT op c (X, X) (Y, Y) = (0#64, topW c)))) := by
  have m : ∀ Z : B64, mayS (Z, Z) = true := fun Z => decide_eq_true (Nat.le_refl _)
  refine ⟨fun h => if_neg (fun k => by unfold aluOk at k; omega), fun h0 h1 => ?_⟩
  have hok : aluOk op (X, X) (Y, Y) := ⟨by omega, by omega, m X, m Y⟩
  refine ⟨if_pos hok, ?_⟩
  by_cases e : aluT op c (X, X) (Y, Y) = (oneB op.toNat c X Y, oneB op.toNat c X Y)
  · exact .inl e
  · refine .inr ⟨e, ?_⟩
    obtain ⟨s1, s2⟩ := (alu_sound op c (X, X) (Y, Y) hok X Y ⟨Nat.le_refl _, Nat.le_refl _⟩ ⟨Nat.le_refl _, Nat.le_refl _⟩).1
    have v : aluT op c (X, X) (Y, Y) = resS op.toNat c (cutK (X, X) (sizeW c)) (cutK (Y, Y) (sizeW c)) := if_pos hok
    obtain ⟨a1, a2, _⟩ := cut_ok (X, X) (sizeW c) (sizeW_le c) (Nat.le_refl _)
    obtain ⟨b1, b2, _⟩ := cut_ok (Y, Y) (sizeW c) (sizeW_le c) (Nat.le_refl _)
    rw [← modW_pow] at a2 b2
    rcases res_one op.toNat (by omega) c _ _ (cut_single X c) (cut_single Y c) a2 b2 with h | ⟨h, k⟩
    · exfalso
      apply e
      rw [← v] at h
      exact Prod.ext (BitVec.eq_of_toNat_eq (by dsimp only; omega)) (BitVec.eq_of_toNat_eq (by dsimp only; omega))
    · exact ⟨by omega, by rw [v, k]⟩
end Go.Proofs.Ytoanbjnhoggpjaa
