/-
  Contract of the document's JoinReg, whole (layer 12).
-/
import Derived.Test.YtodmikjpmcabiaaJSjB
import Derived.Test.YtodmikjpmcabiaaJSiB
namespace Go.Proofs.Ytodmikjpmcabiaa
set_option linter.unusedSimpArgs false
set_option linter.unusedVariables false
set_option maxRecDepth 100000
set_option maxRecDepth 100000
open Go.ChangeShapes Go.WideShapes Go.ChangeAt Go.RowKit Me

theorem third_false {a : Rg} (ha : Rm a) (h : thirdB a = false) (m : Int) : isM a m = false := by
  cases ha with
  | none => exact isM_not (by decide) (by decide) (by decide) m
  | num l s h1 h2 =>
    unfold thirdB at h
    rw [nou_num] at h
    unfold isM
    simp at h ⊢
    exact h
  | ctx => exact isM_not (by decide) (by decide) (by decide) m
  | far k lo hi hk h1 h2 h3 => exact isM_not (by dsimp only; omega) (by dsimp only; omega) (by dsimp only; omega) m
  | ref n h1 => exact isM_not (by simp) (by simp) (by simp) m
  | maybe n h1 => unfold thirdB at h; simp at h
  | cell n lo hi h1 h2 h3 h4 =>
    unfold thirdB at h
    rw [nou_not (by simp)] at h
    unfold isM
    simp [rB] at h ⊢
    intro _ e
    exact h e
theorem third_true {a : Rg} (ha : Rm a) (h : thirdB a = true) : (∃ l, a = ⟨1, l, 0, ofX 0#64, 0, 0⟩) ∨ (∃ m, 0 ≤ m ∧ a = ⟨6, false, m, sc0, 0, 0⟩) ∨ ∃ m, 0 ≤ m ∧ a = ⟨7, false, m, sc0, 0, 0⟩ := by
  cases ha with
  | none => exact absurd h (by decide)
  | num l s h1 h2 =>
    unfold thirdB at h
    rw [nou_num] at h
    simp at h
    exact .inl ⟨l, by rw [h]⟩
  | ctx => exact absurd h (by decide)
  | far k lo hi hk h1 h2 h3 =>
    unfold thirdB at h
    rw [nou_not (by dsimp only; omega)] at h
    simp at h
    omega
  | ref n h1 => unfold thirdB at h; rw [nou_not (by simp)] at h; simp at h
  | maybe n h1 => exact .inr (.inr ⟨n, h1, rfl⟩)
  | cell n lo hi h1 h2 h3 h4 =>
    unfold thirdB at h
    rw [nou_not (by simp)] at h
    simp at h
    exact .inr (.inl ⟨n, h1, by rw [h.1, h.2]⟩)
theorem rJoin_no {a b : Rg} (hn : ¬ (a.k = b.k ∧ a.m = b.m)) (h : isM a (max a.m b.m) = false ∨ isM b (max a.m b.m) = false) : rJoin a b = r0 := by
  unfold rJoin
  rw [if_neg hn, if_neg (by rcases h with h | h <;> rw [h] <;> simp)]
theorem rJoinReg_any (a b : Rg) (ha : Rm a) (hb : Rm b) (w : World) : Calls Try.prog 35 #[rV a, rV b] w fun e w' => e = .returned (rV (rJoin a b)) ∧ Below w.heap.size w w' := by
  by_cases hn : a.k = b.k
  · cases hb with
    | none =>
      cases ha <;> first | (exfalso; dsimp only [r0] at hn; omega) | skip
      rw [show rJoin r0 r0 = r0 by rw [rJoin_same ⟨rfl, rfl⟩]; simp [r0, joS_zero]]
      exact jr_0 w
    | num l' s' g1 g2 =>
      cases ha <;> first | (exfalso; dsimp only [r0] at hn; omega) | skip
      rename_i l s h1 h2
      rw [rj_num]
      exact jr_1 l l' s s' w
    | ctx =>
      cases ha <;> first | (exfalso; dsimp only [r0] at hn; omega) | skip
      rw [rj_sp 2 0 0 0 0 0]
      exact jr_2 w
    | far k' lo' hi' hk' g1 g2 g3 =>
      cases ha <;> first | (exfalso; dsimp only [r0] at hn; omega) | skip
      rename_i k lo hi hk h1 h2 h3
      obtain rfl : k = k' := hn
      rw [rj_sp]
      rcases hk with rfl | rfl
      · exact jr_3 lo hi lo' hi' w
      · exact jr_4 lo hi lo' hi' w
    | ref n g1 =>
      cases ha <;> first | (exfalso; dsimp only [r0] at hn; omega) | skip
      rename_i m h1
      by_cases hm : m = n
      · subst hm
        rw [rj_sp]
        exact jr_5 m 0 0 0 0 w
      · rw [rJoin_no (fun h => hm h.2) (.inl (isM_not (by simp) (by simp) (by simp) _))]
        exact jr_5n m n 0 0 0 0 hm w
    | maybe n g1 =>
      cases ha <;> first | (exfalso; dsimp only [r0] at hn; omega) | skip
      rename_i m h1
      by_cases hm : m = n
      · subst hm
        rw [rj_sp]
        exact jr_7 m 0 0 0 0 w
      · rw [rJoin_no (fun h => hm h.2) (by
          dsimp only
          by_cases hx : m = max m n
          · exact .inr (by unfold isM; simp [rB]; omega)
          · exact .inl (by unfold isM; simp [rB]; omega))]
        exact jr_7n m n 0 0 0 0 hm w
    | cell n lo' hi' g1 g2 g3 g4 =>
      cases ha <;> first | (exfalso; dsimp only [r0] at hn; omega) | skip
      rename_i m lo hi h1 h2 h3 h4
      by_cases hm : m = n
      · subst hm
        rw [rj_sp]
        exact jr_6 m lo hi lo' hi' w
      · rw [rJoin_no (fun h => hm h.2) (by
          dsimp only
          by_cases hx : m = max m n
          · exact .inr (by unfold isM; simp [rB]; omega)
          · exact .inl (by unfold isM; simp [rB]; omega))]
        exact jr_6n m n lo hi lo' hi' hm w
  · cases ta : thirdB a
    · rw [rJoin_no (fun h => hn h.1) (.inl (third_false ha ta _))]
      exact jr_n1 a b hn ta w
    cases tb : thirdB b
    · rw [rJoin_no (fun h => hn h.1) (.inr (third_false hb tb _))]
      exact jr_n2 a b hn ta tb w
    rcases third_true ha ta with ⟨l, rfl⟩ | ⟨m, hm, rfl⟩ | ⟨m, hm, rfl⟩ <;> rcases third_true hb tb with ⟨l', rfl⟩ | ⟨n, hn', rfl⟩ | ⟨n, hn', rfl⟩
    · exact absurd rfl hn
    · rw [rj_zc l n hn']; exact jr_16 l n _ ta tb w
    · rw [rj_zm l n hn']; exact jr_17 l n _ ta tb w
    · rw [rj_cz l' m hm]; exact jr_61 l' m _ ta tb w
    · exact absurd rfl hn
    · by_cases e : m = n
      · subst e; rw [rj_cm m]; exact jr_67 m ta tb w
      · rw [rJoin_no (fun h => e h.2) (by
          dsimp only
          by_cases hx : m = max m n
          · exact .inr (by unfold isM; simp [rB]; omega)
          · exact .inl (by unfold isM; simp [rB]; omega))]
        exact jr_67n m n ta tb e w
    · rw [rj_mz l' m hm]; exact jr_71 l' m _ ta tb w
    · by_cases e : m = n
      · subst e; rw [rj_mc m]; exact jr_76 m ta tb w
      · rw [rJoin_no (fun h => e h.2) (by
          dsimp only
          by_cases hx : m = max m n
          · exact .inr (by unfold isM; simp [rB]; omega)
          · exact .inl (by unfold isM; simp [rB]; omega))]
        exact jr_76n m n ta tb e w
    · exact absurd rfl hn
end Go.Proofs.Ytodmikjpmcabiaa
