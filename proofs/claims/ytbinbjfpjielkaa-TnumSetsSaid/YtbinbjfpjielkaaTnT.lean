/-
  Contracts of the document's Has, Free and In.
-/
import Derived.Test.YtbinbjfpjielkaaTnX
import Derived.Deep.RegionHeld3
namespace Go.Proofs.Ytbinbjfpjielkaa
set_option linter.unusedSimpArgs false
set_option linter.unusedVariables false
open Go.ChangeShapes Go.WideShapes Go.ChangeAt Go.RowKit

@[go_sem] theorem mM_and1 (z o : Bool) : bits .and .i64 (mM z o) 1 = mM z false := by cases z <;> cases o <;> kernel_rfl
@[go_sem] theorem mM_and2 (z o : Bool) : bits .and .i64 (mM z o) 2 = mM false o := by cases z <;> cases o <;> kernel_rfl
theorem rMk (a : Tn) (i : Nat) (hi : i < 64) (w : World) : Calls Try.prog 60 #[tv a, .int .i64 (i : Int)] w fun e w' => e = .returned (.int .i64 (mM (kz a i) (ko a i))) ∧ Below w.heap.size w w' := rMark_any a i hi w
/-- Whether a bit of a number may be one of a tnum's. -/
def hb (a : Tn) (n : B64) (i : Nat) : Bool := if bt n i then ko a i else kz a i
theorem has_hb {a : Tn} (h : tmay a = true) (n : B64) : thas a n = true ↔ ∀ i, i < 64 → hb a n i = true := by
  rw [has_iff]
  constructor
  · rintro ⟨_, h2⟩ i hi
    have e := hs_bit h2 i hi
    have m := may_bit h i
    unfold hb kz ko
    revert e m
    cases bt n i <;> cases bt a.1 i <;> cases bt a.2 i <;> simp
  · intro h2
    refine ⟨h, b_ext fun i hi => ?_⟩
    rw [bt_and, bt_not _ _ hi]
    have e := h2 i hi
    have m := may_bit h i
    unfold hb kz ko at e
    revert e m
    cases bt n i <;> cases bt a.1 i <;> cases bt a.2 i <;> simp
structure BxI (w : World) (a : Tn) (wr : World) : Prop where
  ca : TC wr w.heap.size a
  bel : Below w.heap.size w wr
theorem BxI.next {w : World} {a : Tn} {wr w' : World} (h : BxI w a wr) (hb : Below wr.heap.size wr w') : BxI w a w' := ⟨h.ca.below hb, h.bel.trans (hb.mono h.bel.size)⟩
set_option maxHeartbeats 4000000 in
theorem rHas_any (a : Tn) (n : B64) (w : World) : Calls Try.prog 22 #[tv a, .int .u64 (ub n)] w fun e w' => e = .returned (.bool (thas a n)) ∧ Below w.heap.size w w' := by
  have HA := fun W => rMay_any a W
  have HM := hid fun i hi W => rMk a i hi W
  unfold tv at HA HM ⊢
  cases ha : tmay a
  · rw [ha] at HA
    have e : thas a n = false := by unfold thas; rw [ha]; rfl
    rw [e]
    have HA' := hid HA
    clear HA ha e
    go_enter Try.func22, Try.ntmps22
    go_wp2_with fail
    refine (HA'.out _).mono ?_
    rintro e w1 ⟨rfl, b1⟩
    have HB := hid (((Below.refl _ _).alloc (Nat.le_refl _) _).trans (b1.mono (by simp)))
    go_wp2
    go_ret
    exact ⟨rfl, HB.out⟩
  rw [ha] at HA
  have HA' := hid HA
  have hbb := hid (has_hb ha n)
  clear HA ha
  obtain ⟨V, hV⟩ : ∃ V, V = thas a n := ⟨_, rfl⟩
  rw [← hV]
  rw [← hV] at hbb
  clear hV
  go_enter Try.func22, Try.ntmps22
  go_wp2_with fail
  refine (HA'.out _).mono ?_
  rintro e w1 ⟨rfl, b1⟩
  have I0 := hid (show BxI w a w1 from ⟨(TC.new rfl).below b1, ((Below.refl _ _).alloc (Nat.le_refl _) _).trans (b1.mono (by simp))⟩)
  clear b1
  go_wp2_with fail
  go_loopw [5] (fun i wr => ∃ k : Nat, k ≤ 64 ∧ i = .int .i64 k ∧ Hid (∀ j, j < k → hb a n j = true) ∧ Hid (BxI w a wr)) (fun i _ => 64 - (intOf i).toNat)
  case atStart => exact ⟨0, by omega, rfl, hid (fun j hj => by omega), I0⟩
  case round =>
    clear I0
    obtain ⟨k, hk, rfl, HP, HI⟩ := hrel
    obtain ⟨wo, rfl⟩ : ∃ wo : World, wo = wr := ⟨_, rfl⟩
    by_cases hlt : k < 64
    · have hlt' : (k : Int) < 64 := by omega
      have q0 := HI.out.ca.2.1
      have r0 := HI.out.ca.2.2
      have HK := hid (HM.out k hlt)
      have HG := hid (show hb a n k = true → ∀ j, j < k + 1 → hb a n j = true from fun h j hj => (Nat.lt_succ_iff_lt_or_eq.1 hj).elim (fun q => HP.out j q) (fun q => q ▸ h))
      have HF := hid (show hb a n k = false → V = false from fun h => by cases hv : V; · rfl
                                                                         · have := hbb.out.1 hv k hlt; rw [h] at this; cases this)
      clear HP
      unfold hb at HG HF
      cases hn : bt n k
      · rw [hn] at HG HF
        simp only [Bool.false_eq_true, if_false] at HG HF
        cases hz : kz a k
        · rw [hz] at HG HF HK
          obtain rfl := HF.out rfl
          clear HG HF hz
          go_wp2_with fail
          refine (HK.out _).mono ?_
          rintro e w2 ⟨rfl, b2⟩
          have HB := hid (HI.out.next b2).bel
          go_wp2
          go_ret
          exact ⟨rfl, HB.out⟩
        · rw [hz] at HG HF HK
          have HG' := hid (HG.out rfl)
          clear HG HF hz
          go_wp2_with fail
          refine (HK.out _).mono ?_
          rintro e w2 ⟨rfl, b2⟩
          have I2 := hid (HI.out.next b2)
          clear HI b2 q0 r0 HK
          go_wp2
          go_roundw
          case rel => first | exact ⟨k + 1, by omega, by go_num, HG', I2⟩ | ((repeat apply Exists.intro); exact ⟨⟨k + 1, by omega, by go_num, HG', I2⟩, rfl⟩)
          case measure => simp [intOf]; omega
      · rw [hn] at HG HF
        simp only [if_true] at HG HF
        cases hz : ko a k
        · rw [hz] at HG HF HK
          obtain rfl := HF.out rfl
          clear HG HF hz
          go_wp2_with fail
          refine (HK.out _).mono ?_
          rintro e w2 ⟨rfl, b2⟩
          have HB := hid (HI.out.next b2).bel
          go_wp2
          go_ret
          exact ⟨rfl, HB.out⟩
        · rw [hz] at HG HF HK
          have HG' := hid (HG.out rfl)
          clear HG HF hz
          go_wp2_with fail
          refine (HK.out _).mono ?_
          rintro e w2 ⟨rfl, b2⟩
          have I2 := hid (HI.out.next b2)
          clear HI b2 q0 r0 HK
          go_wp2
          go_roundw
          case rel => first | exact ⟨k + 1, by omega, by go_num, HG', I2⟩ | ((repeat apply Exists.intro); exact ⟨⟨k + 1, by omega, by go_num, HG', I2⟩, rfl⟩)
          case measure => simp [intOf]; omega
    · have hk64 : k = 64 := by omega
      subst hk64
      obtain rfl : V = true := hbb.out.2 HP.out
      have HB := hid HI.out.bel
      go_wp2
      go_ret
      exact ⟨rfl, HB.out⟩
theorem kk_any {a : Tn} (h : tmay a = true) (i : Nat) : (kz a i && ko a i) = bt a.2 i := (kz_ko h i).2
set_option maxHeartbeats 4000000 in
theorem rFree_any (a : Tn) (w : World) : Calls Try.prog 26 #[tv a] w fun e w' => e = .returned (.int .i64 (if tmay a then (cntU a.2 64 : Int) else -1)) ∧ Below w.heap.size w w' := by
  have HA := fun W => rMay_any a W
  have HM := hid fun i hi W => rMk a i hi W
  unfold tv at HA HM ⊢
  obtain ⟨E, hE⟩ : ∃ E, E = (if tmay a then (cntU a.2 64 : Int) else -1) := ⟨_, rfl⟩
  rw [← hE]
  cases ha : tmay a
  · rw [ha] at HA
    obtain rfl : E = -1 := by rw [hE, ha]; rfl
    have HA' := hid HA
    clear HA ha hE
    go_enter Try.func26, Try.ntmps26
    go_wp2_with fail
    refine (HA'.out _).mono ?_
    rintro e w1 ⟨rfl, b1⟩
    have HB := hid (((Below.refl _ _).alloc (Nat.le_refl _) _).trans (b1.mono (by simp)))
    go_wp2
    go_ret
    exact ⟨rfl, HB.out⟩
  rw [ha] at HA
  obtain rfl : E = (cntU a.2 64 : Int) := by rw [hE, ha]; rfl
  have HA' := hid HA
  have HKK := hid (fun i => kk_any ha i)
  clear HA ha hE
  go_enter Try.func26, Try.ntmps26
  go_wp2_with fail
  refine (HA'.out _).mono ?_
  rintro e w1 ⟨rfl, b1⟩
  have I0 := hid (show BxI w a w1 from ⟨(TC.new rfl).below b1, ((Below.refl _ _).alloc (Nat.le_refl _) _).trans (b1.mono (by simp))⟩)
  clear b1
  go_wp2_with fail
  go_loopw [3, 4] (fun c i wr => ∃ k m : Nat, k ≤ 64 ∧ i = .int .i64 k ∧ c = .int .i64 m ∧ m ≤ k ∧ Hid (m = cntU a.2 k) ∧ Hid (BxI w a wr)) (fun _ i _ => 64 - (intOf i).toNat)
  case atStart => exact ⟨0, 0, by omega, rfl, rfl, by omega, hid rfl, I0⟩
  case round =>
    clear I0
    obtain ⟨k, m, hk, rfl, rfl, hm, HP, HI⟩ := hrel
    obtain ⟨wo, rfl⟩ : ∃ wo : World, wo = wr := ⟨_, rfl⟩
    by_cases hlt : k < 64
    · have hlt' : (k : Int) < 64 := by omega
      have hm' : (m : Int) < 64 := by omega
      have q0 := HI.out.ca.2.1
      have r0 := HI.out.ca.2.2
      have HK := hid (HM.out k hlt)
      have hc := HKK.out k
      cases hb' : bt a.2 k
      · rw [hb'] at hc
        have HQ := hid (show m = cntU a.2 (k + 1) by rw [cntU, show a.2.getLsbD k = bt a.2 k from rfl, hb', HP.out]; rfl)
        clear HP hb'
        go_wp2_with fail
        refine (HK.out _).mono ?_
        rintro e w2 ⟨rfl, b2⟩
        have I2 := hid (HI.out.next b2)
        clear HI b2 q0 r0 HK
        go_wp2
        go_roundw
        case rel => first | exact ⟨k + 1, m, by omega, by go_num, rfl, by omega, HQ, I2⟩ | ((repeat apply Exists.intro); exact ⟨⟨k + 1, m, by omega, by go_num, rfl, by omega, HQ, I2⟩, rfl⟩)
        case measure => simp [intOf]; omega
      · rw [hb'] at hc
        have HQ := hid (show m + 1 = cntU a.2 (k + 1) by rw [cntU, show a.2.getLsbD k = bt a.2 k from rfl, hb', HP.out]; rfl)
        clear HP hb'
        go_wp2_with fail
        refine (HK.out _).mono ?_
        rintro e w2 ⟨rfl, b2⟩
        have I2 := hid (HI.out.next b2)
        clear HI b2 q0 r0 HK
        go_wp2
        go_roundw
        case rel => first | exact ⟨k + 1, m + 1, by omega, by go_num, by go_num, by omega, HQ, I2⟩ | ((repeat apply Exists.intro); exact ⟨⟨k + 1, m + 1, by omega, by go_num, by go_num, by omega, HQ, I2⟩, rfl⟩)
        case measure => simp [intOf]; omega
    · have hk64 : k = 64 := by omega
      subst hk64
      have HB := hid HI.out.bel
      go_wp2
      go_ret
      exact ⟨by rw [HP.out]; rfl, HB.out⟩
end Go.Proofs.Ytbinbjfpjielkaa
