/-
  Plain: a greater span on either side makes no lesser one: no program.
-/
import Derived.Test.YtoanbjnhoggpjaaSpQ
namespace Go.Proofs.Ytoanbjnhoggpjaa
set_option linter.unusedSimpArgs false
set_option linter.unusedVariables false
set_option maxRecDepth 100000
open Go.RowKit

/-- A span within another one. -/
def Sub (a b : Tn) : Prop := b.1.toNat ≤ a.1.toNat ∧ a.2.toNat ≤ b.2.toNat
theorem Sub.lies {a b : Tn} (h : Sub a b) {x : Nat} (hx : Lies a x) : Lies b x := ⟨Nat.le_trans h.1 hx.1, Nat.le_trans hx.2 h.2⟩
theorem count_mono (c : Bool) (b b' : Tn) (hb : b.1.toNat ≤ b.2.toNat) (h : Sub b b') : Sub (countS c b) (countS c b') := by
  obtain ⟨_, c2, c3⟩ := count_ok c b hb
  have hb' : b'.1.toNat ≤ b'.2.toNat := Nat.le_trans h.1 (Nat.le_trans hb h.2)
  have hwd := width b hb
  have hwd' := width b' hb'
  have m : ∀ x : B64, (x % sizeB c).toNat = x.toNat % sizeW c := fun x => by rw [BitVec.toNat_umod]; cases c <;> rfl
  have h3 : (sizeB c - 1#64).toNat = sizeW c - 1 := by cases c <;> rfl
  have hz : sizeW c = 64 ∨ sizeW c = 32 := by cases c <;> simp [sizeW]
  have z : (0#64 : B64).toNat = 0 := rfl
  unfold Sub at *
  by_cases hc : (sizeB c - 1#64).toNat ≤ (b'.2 - b'.1).toNat ∨ (b'.2 % sizeB c).toNat < (b'.1 % sizeB c).toNat
  · rw [show countS c b' = (0#64, sizeB c - 1#64) from if_pos hc]
    dsimp only
    rw [h3, z]
    omega
  · have hc' : ¬ ((sizeB c - 1#64).toNat ≤ (b.2 - b.1).toNat ∨ (b.2 % sizeB c).toNat < (b.1 % sizeB c).toNat) := by
      rw [m, m, h3, hwd'] at hc
      rw [m, m, h3, hwd]
      rcases hz with e | e <;> rw [e] at hc ⊢ <;> omega
    rw [show countS c b' = (b'.1 % sizeB c, b'.2 % sizeB c) from if_neg hc, show countS c b = (b.1 % sizeB c, b.2 % sizeB c) from if_neg hc']
    dsimp only
    rw [m, m, h3, hwd'] at hc
    rw [m, m, m, m]
    rcases hz with e | e <;> rw [e] at hc ⊢ <;> omega
theorem prod_mono (w : Bool) (a b a' b' : Tn) (ha : a.1.toNat ≤ a.2.toNat) (hb : b.1.toNat ≤ b.2.toNat) (sa : Sub a a') (sb : Sub b b') : Sub (prodS w a b) (prodS w a' b') := by
  have ha' : a'.1.toNat ≤ a'.2.toNat := Nat.le_trans sa.1 (Nat.le_trans ha sa.2)
  have hb' : b'.1.toNat ≤ b'.2.toNat := Nat.le_trans sb.1 (Nat.le_trans hb sb.2)
  have l1 := Nat.mul_le_mul sa.1 sb.1
  have l2 := Nat.mul_le_mul sa.2 sb.2
  have lt := (prod_sound w a b ha hb).2
  rcases prod_view w a' b' ha' hb' with ⟨h1, h2⟩ | ⟨h1, h2, h3⟩
  · rw [h2]
    refine ⟨Nat.zero_le _, ?_⟩
    show _ ≤ (topW w).toNat
    rw [topW_toNat]; omega
  · rcases prod_view w a b ha hb with ⟨k1, k2⟩ | ⟨k1, k2, k3⟩
    · omega
    · unfold Sub
      rw [h2, h3, k2, k3]
      exact ⟨l1, l2⟩
theorem quot_mono (a b a' b' : Tn) (ha : a.1.toNat ≤ a.2.toNat) (hb : b.1.toNat ≤ b.2.toNat) (sa : Sub a a') (sb : Sub b b') : Sub (quotS a b) (quotS a' b') := by
  have ha' : a'.1.toNat ≤ a'.2.toNat := Nat.le_trans sa.1 (Nat.le_trans ha sa.2)
  have hb' : b'.1.toNat ≤ b'.2.toNat := Nat.le_trans sb.1 (Nat.le_trans hb sb.2)
  obtain ⟨_, _, ⟨x, y, hx, hy, e⟩, ⟨x2, y2, hx2, hy2, e2⟩⟩ := quot_sound a b ha hb
  obtain ⟨s1, _⟩ := quot_sound a' b' ha' hb'
  have k1 := s1 x y (sa.lies hx) (sb.lies hy)
  have k2 := s1 x2 y2 (sa.lies hx2) (sb.lies hy2)
  rw [e] at k1
  rw [e2] at k2
  exact ⟨k1.1, k2.2⟩
theorem sign_sound (w : Bool) (a c : Tn) (ha : a.1.toNat ≤ a.2.toNat) (hm : a.2.toNat < modW w) (hc : c.1.toNat ≤ c.2.toNat) (hl : c.2.toNat < 64) :
    (∀ x k, Lies a x → Lies c k → Lies (signS w a c) (drawN w x k)) ∧ (∃ x k, Lies a x ∧ Lies c k ∧ drawN w x k = (signS w a c).1.toNat) ∧ (∃ x k, Lies a x ∧ Lies c k ∧ drawN w x k = (signS w a c).2.toNat) := by
  have v1 := draw_view w a.1 c.2.toNat c.1.toNat (by omega) (by omega) (by omega)
  have v2 := draw_view w a.2 c.1.toNat c.2.toNat (by omega) (by omega) (by omega)
  have C1 : Lies c c.1.toNat := ⟨Nat.le_refl _, hc⟩
  have C2 : Lies c c.2.toNat := ⟨hc, Nat.le_refl _⟩
  have A1 : Lies a a.1.toNat := ⟨Nat.le_refl _, ha⟩
  have A2 : Lies a a.2.toNat := ⟨ha, Nat.le_refl _⟩
  refine ⟨fun x k hx hk => ?_, ?_, ?_⟩
  · obtain ⟨k1, k2⟩ := hk
    unfold Lies signS drawN
    dsimp only
    rw [v1, v2]
    have p0 := Nat.two_pow_pos k
    have p1 : 2 ^ c.1.toNat ≤ 2 ^ k := Nat.pow_le_pow_right (by decide) k1
    have p2 : 2 ^ k ≤ 2 ^ c.2.toNat := Nat.pow_le_pow_right (by decide) k2
    have pc := Nat.two_pow_pos c.1.toNat
    obtain ⟨x1, x2⟩ := hx
    constructor
    · by_cases q : a.1.toNat < modW w / 2
      · rw [if_pos q]
        by_cases q2 : x < modW w / 2
        · rw [if_pos q2]; exact div_mono x1 p2 p0
        · rw [if_neg q2]
          have d1 := Nat.div_le_self a.1.toNat (2 ^ c.2.toNat)
          have d2 := Nat.div_le_self (modW w - 1 - x) (2 ^ k)
          omega
      · rw [if_neg q, if_neg (by omega)]
        have := div_mono (show modW w - 1 - x ≤ modW w - 1 - a.1.toNat by omega) p1 pc
        omega
    · by_cases q : a.2.toNat < modW w / 2
      · rw [if_pos q, if_pos (by omega)]; exact div_mono x2 p1 pc
      · rw [if_neg q]
        by_cases q2 : x < modW w / 2
        · rw [if_pos q2]
          have d1 := Nat.div_le_self x (2 ^ k)
          have d2 := Nat.div_le_self (modW w - 1 - a.2.toNat) (2 ^ c.2.toNat)
          omega
        · rw [if_neg q2]
          have := div_mono (show modW w - 1 - a.2.toNat ≤ modW w - 1 - x by omega) p2 p0
          omega
  · by_cases q : a.1.toNat < modW w / 2
    · exact ⟨_, _, A1, C2, by show drawN w _ _ = (drawB w a.1 _ _).toNat; rw [v1]; unfold drawN; rw [if_pos q, if_pos q]⟩
    · exact ⟨_, _, A1, C1, by show drawN w _ _ = (drawB w a.1 _ _).toNat; rw [v1]; unfold drawN; rw [if_neg q, if_neg q]⟩
  · by_cases q : a.2.toNat < modW w / 2
    · exact ⟨_, _, A2, C1, by show drawN w _ _ = (drawB w a.2 _ _).toNat; rw [v2]; unfold drawN; rw [if_pos q, if_pos q]⟩
    · exact ⟨_, _, A2, C2, by show drawN w _ _ = (drawB w a.2 _ _).toNat; rw [v2]; unfold drawN; rw [if_neg q, if_neg q]⟩
theorem rest_view (a b : Tn) :
    ((b.2.toNat = 0 ∨ a.2.toNat < b.1.toNat) ∧ (restS a b).1.toNat = a.1.toNat ∧ (restS a b).2.toNat = a.2.toNat) ∨
    (b.2.toNat ≠ 0 ∧ ¬ a.2.toNat < b.1.toNat ∧ b.1.toNat = b.2.toNat ∧ a.1.toNat / b.2.toNat = a.2.toNat / b.2.toNat ∧ (restS a b).1.toNat = a.1.toNat % b.2.toNat ∧ (restS a b).2.toNat = a.2.toNat % b.2.toNat) ∨
    (b.2.toNat ≠ 0 ∧ ¬ a.2.toNat < b.1.toNat ∧ ¬ (b.1.toNat = b.2.toNat ∧ a.1.toNat / b.2.toNat = a.2.toNat / b.2.toNat) ∧ (restS a b).1.toNat = 0 ∧ (restS a b).2.toNat = if b.1.toNat = 0 then a.2.toNat else min a.2.toNat (b.2.toNat - 1)) := by
  have e0 := toNat_zero_iff b.2
  have e1 := toNat_zero_iff b.1
  have e2 : b.1 = b.2 ↔ b.1.toNat = b.2.toNat := ⟨fun h => by rw [h], fun h => BitVec.eq_of_toNat_eq h⟩
  have e3 : a.1 / b.2 = a.2 / b.2 ↔ a.1.toNat / b.2.toNat = a.2.toNat / b.2.toNat := by
    constructor
    · intro h; have := congrArg BitVec.toNat h; rw [BitVec.toNat_udiv, BitVec.toNat_udiv] at this; exact this
    · intro h; apply BitVec.eq_of_toNat_eq; rw [BitVec.toNat_udiv, BitVec.toNat_udiv]; exact h
  by_cases h1 : b.2 = 0#64 ∨ a.2.toNat < b.1.toNat
  · left
    rw [show restS a b = a from if_pos h1]
    exact ⟨h1.imp e0.1 id, rfl, rfl⟩
  · right
    have h1' : b.2.toNat ≠ 0 ∧ ¬ a.2.toNat < b.1.toNat := ⟨fun h => h1 (.inl (e0.2 h)), fun h => h1 (.inr h)⟩
    by_cases h2 : b.1 = b.2 ∧ a.1 / b.2 = a.2 / b.2
    · left
      rw [show restS a b = (a.1 % b.2, a.2 % b.2) by unfold restS; rw [if_neg h1, if_pos h2]]
      exact ⟨h1'.1, h1'.2, e2.1 h2.1, e3.1 h2.2, BitVec.toNat_umod, BitVec.toNat_umod⟩
    · right
      have h2' : ¬ (b.1.toNat = b.2.toNat ∧ a.1.toNat / b.2.toNat = a.2.toNat / b.2.toNat) := fun h => h2 ⟨e2.2 h.1, e3.2 h.2⟩
      by_cases h3 : b.1 = 0#64
      · rw [show restS a b = (0#64, a.2) by unfold restS; rw [if_neg h1, if_neg h2, if_pos h3], if_pos (e1.1 h3)]
        exact ⟨h1'.1, h1'.2, h2', rfl, rfl⟩
      · rw [show restS a b = (0#64, bmin a.2 (b.2 - 1#64)) by unfold restS; rw [if_neg h1, if_neg h2, if_neg h3], if_neg (fun h => h3 (e1.2 h))]
        refine ⟨h1'.1, h1'.2, h2', rfl, ?_⟩
        show (bmin a.2 (b.2 - 1#64)).toNat = _
        rw [bmin_toNat, sub64, show (1#64 : B64).toNat = 1 from rfl]
        have := b.2.isLt
        omega
theorem rest_mono (a b a' b' : Tn) (ha : a.1.toNat ≤ a.2.toNat) (hb : b.1.toNat ≤ b.2.toNat) (sa : Sub a a') (sb : Sub b b') : Sub (restS a b) (restS a' b') := by
  have v := rest_view a b
  have v' := rest_view a' b'
  unfold Sub at *
  generalize restS a b = r at *
  generalize restS a' b' = r' at *
  generalize r.1.toNat = r1 at *
  generalize r.2.toNat = r2 at *
  generalize r'.1.toNat = s1 at *
  generalize r'.2.toNat = s2 at *
  generalize a.1.toNat = a1 at *
  generalize a.2.toNat = a2 at *
  generalize b.1.toNat = b1 at *
  generalize b.2.toNat = b2 at *
  generalize a'.1.toNat = c1 at *
  generalize a'.2.toNat = c2 at *
  generalize b'.1.toNat = d1 at *
  generalize b'.2.toNat = d2 at *
  have md : ∀ x n : Nat, 0 < n → x % n < n := fun x n h => Nat.mod_lt x h
  have ml : ∀ x n : Nat, x % n ≤ x := Nat.mod_le
  rcases v with ⟨p1, p2, p3⟩ | ⟨p0, p1, p2, p3, p4, p5⟩ | ⟨p0, p1, p2, p4, p5⟩
  · rcases v' with ⟨q1, q2, q3⟩ | ⟨q0, q1, q2, q3, q4, q5⟩ | ⟨q0, q1, q2, q4, q5⟩
    · omega
    · have h : a2 < d2 := by omega
      have z1 : c1 / d2 ≤ a1 / d2 := Nat.div_le_div_right sa.1
      have z2 : a1 / d2 = 0 := Nat.div_eq_of_lt (by omega)
      have z3 : c2 / d2 = 0 := by rw [← q3]; exact Nat.le_zero.1 (z2 ▸ z1)
      have z4 : c2 < d2 := by
        rcases Nat.lt_or_ge c2 d2 with h | h
        · exact h
        · have := Nat.div_pos h (by omega : 0 < d2); omega
      rw [Nat.mod_eq_of_lt (by omega)] at q4
      rw [Nat.mod_eq_of_lt z4] at q5
      omega
    · by_cases hd : d1 = 0
      · rw [if_pos hd] at q5; omega
      · rw [if_neg hd] at q5; omega
  · have m1 := md a2 b2 (by omega)
    have m2 := ml a2 b2
    have m3 := ml a1 b2
    rcases v' with ⟨q1, q2, q3⟩ | ⟨q0, q1, q2, q3, q4, q5⟩ | ⟨q0, q1, q2, q4, q5⟩
    · have : b2 ≠ 0 := p0
      have h : c2 < d1 := by omega
      have h2 : a2 < b1 := by omega
      omega
    · obtain rfl : d2 = b2 := by omega
      have k1 : c1 / d2 ≤ a1 / d2 := Nat.div_le_div_right sa.1
      have k2 : a2 / d2 ≤ c2 / d2 := Nat.div_le_div_right sa.2
      have e1 := Nat.div_add_mod a1 d2
      have e2 := Nat.div_add_mod a2 d2
      have e3 := Nat.div_add_mod c1 d2
      have e4 := Nat.div_add_mod c2 d2
      rw [show a1 / d2 = c2 / d2 by omega] at e1
      rw [show a2 / d2 = c2 / d2 by omega] at e2
      rw [show c1 / d2 = c2 / d2 by omega] at e3
      omega
    · by_cases hd : d1 = 0
      · rw [if_pos hd] at q5; omega
      · rw [if_neg hd] at q5; omega
  · rcases v' with ⟨q1, q2, q3⟩ | ⟨q0, q1, q2, q3, q4, q5⟩ | ⟨q0, q1, q2, q4, q5⟩
    · exfalso
      rcases q1 with q1 | q1
      · omega
      · omega
    · exfalso
      apply p2
      obtain rfl : b2 = d2 := by omega
      refine ⟨by omega, ?_⟩
      have k1 : c1 / b2 ≤ a1 / b2 := Nat.div_le_div_right sa.1
      have k2 : a2 / b2 ≤ c2 / b2 := Nat.div_le_div_right sa.2
      have k3 : a1 / b2 ≤ a2 / b2 := Nat.div_le_div_right ha
      omega
    · by_cases hd : d1 = 0
      · rw [if_pos hd] at q5
        by_cases hb1 : b1 = 0
        · rw [if_pos hb1] at p5; omega
        · rw [if_neg hb1] at p5; omega
      · rw [if_neg hd] at q5
        rw [if_neg (by omega)] at p5
        omega
/-- A GREATER SPAN ON EITHER SIDE MAKES NO LESSER ONE. -/
theorem res_mono (op : Nat) (hop : op ≤ 12) (w : Bool) (a b a' b' : Tn) (ha : a.1.toNat ≤ a.2.toNat) (hb : b.1.toNat ≤ b.2.toNat) (sa : Sub a a') (sb : Sub b b') (la : a'.2.toNat < modW w) (lb : b'.2.toNat < modW w) :
    Sub (resS op w a b) (resS op w a' b') := by
  have ha' : a'.1.toNat ≤ a'.2.toNat := Nat.le_trans sa.1 (Nat.le_trans ha sa.2)
  have hb' : b'.1.toNat ≤ b'.2.toNat := Nat.le_trans sb.1 (Nat.le_trans hb sb.2)
  have la0 : a.2.toNat < modW w := Nat.lt_of_le_of_lt sa.2 la
  have lb0 : b.2.toNat < modW w := Nat.lt_of_le_of_lt sb.2 lb
  have cm := count_mono w b b' hb sb
  obtain ⟨_, c2, c3⟩ := count_ok w b hb
  obtain ⟨_, c2', c3'⟩ := count_ok w b' hb'
  have hs := sizeW_le w
  have pm : Sub (powS (countS w b)) (powS (countS w b')) ∧ (powS (countS w b)).1.toNat ≤ (powS (countS w b)).2.toNat := by
    obtain ⟨p1, p2⟩ := powS_toNat (countS w b) (by omega) (by omega)
    obtain ⟨p1', p2'⟩ := powS_toNat (countS w b') (by omega) (by omega)
    unfold Sub
    rw [p1, p2, p1', p2']
    exact ⟨⟨Nat.pow_le_pow_right (by decide) cm.1, Nat.pow_le_pow_right (by decide) cm.2⟩, Nat.pow_le_pow_right (by decide) c3⟩
  by_cases ht : op ≤ 11 ∧ op ≠ 2 ∧ op ≠ 6 ∧ op ≠ 7 ∧ op ≠ 9
  · obtain ⟨⟨x, y, hx, hy, e⟩, ⟨x2, y2, hx2, hy2, e2⟩⟩ := res_tight op ht.1 w a b ha hb la0 lb0 ht.2
    obtain ⟨s, _⟩ := res_sound op hop w a' b' ha' hb' la lb
    have k1 := s x y (sa.lies hx) (sb.lies hy)
    have k2 := s x2 y2 (sa.lies hx2) (sb.lies hy2)
    rw [e] at k1
    rw [e2] at k2
    exact ⟨k1.1, k2.2⟩
  · obtain rfl | rfl | rfl | rfl | rfl : op = 2 ∨ op = 6 ∨ op = 7 ∨ op = 9 ∨ op = 12 := by omega
    · exact prod_mono w a b a' b' ha hb sa sb
    · exact prod_mono w a _ a' _ ha pm.2 sa pm.1
    · exact quot_mono a _ a' _ ha pm.2 sa pm.1
    · exact rest_mono a b a' b' ha hb sa sb
    · obtain ⟨_, ⟨x, k, hx, hk, e⟩, ⟨x2, k2, hx2, hk2, e2⟩⟩ := sign_sound w a (countS w b) ha la0 c3 (by omega)
      obtain ⟨s, _⟩ := sign_sound w a' (countS w b') ha' la c3' (by omega)
      have j1 := s x k (sa.lies hx) (cm.lies hk)
      have j2 := s x2 k2 (sa.lies hx2) (cm.lies hk2)
      rw [e] at j1
      rw [e2] at j2
      exact ⟨j1.1, j2.2⟩
end Go.Proofs.Ytoanbjnhoggpjaa
