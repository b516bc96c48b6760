/-
  Contract of the document's In.
-/
import Derived.Test.YtbinbjfpjielkaaTnT2
import Derived.Deep.RegionHeld3
namespace Go.Proofs.Ytbinbjfpjielkaa
set_option linter.unusedSimpArgs false
set_option linter.unusedVariables false
open Go.ChangeShapes Go.WideShapes Go.ChangeAt Go.RowKit

def inb (a b : Tn) (i : Nat) : Bool := mM (kz a i || kz b i) (ko a i || ko b i) == mM (kz b i) (ko b i)
theorem in_inb {a b : Tn} (ha : tmay a = true) (hb : tmay b = true) : tin a b = true ↔ ∀ i, i < 64 → inb a b i = true := by
  rw [tin_iff]
  constructor
  · rintro ⟨_, _, h3, h4⟩ i hi
    have e := h3 i hi
    have f := hs_bit h4 i hi
    have m1 := may_bit ha i
    have m2 := may_bit hb i
    unfold inb
    rw [mM_eqM]
    unfold kz ko
    revert e f m1 m2
    cases bt a.1 i <;> cases bt a.2 i <;> cases bt b.1 i <;> cases bt b.2 i <;> simp
  · intro h
    refine ⟨ha, hb, fun i hi => ?_, b_ext fun i hi => ?_⟩
    · have e := h i hi
      have m1 := may_bit ha i
      have m2 := may_bit hb i
      unfold inb at e
      rw [mM_eqM] at e
      unfold kz ko at e
      revert e m1 m2
      cases bt a.1 i <;> cases bt a.2 i <;> cases bt b.1 i <;> cases bt b.2 i <;> simp
    · rw [bt_and, bt_not _ _ hi]
      have e := h i hi
      have m1 := may_bit ha i
      have m2 := may_bit hb i
      unfold inb at e
      rw [mM_eqM] at e
      unfold kz ko at e
      revert e m1 m2
      cases bt a.1 i <;> cases bt a.2 i <;> cases bt b.1 i <;> cases bt b.2 i <;> simp
structure I2 (w : World) (a b : Tn) (wr : World) : Prop where
  ca : TC wr w.heap.size a
  cb : TC wr (w.heap.size + 1) b
  bel : Below w.heap.size w wr
theorem I2.next {w : World} {a b : Tn} {wr w' : World} (h : I2 w a b wr) (hb : Below wr.heap.size wr w') : I2 w a b w' := ⟨h.ca.below hb, h.cb.below hb, h.bel.trans (hb.mono h.bel.size)⟩
set_option maxRecDepth 100000 in
set_option maxHeartbeats 4000000 in
theorem rIn_any (a b : Tn) (w : World) : Calls Try.prog 24 #[tv a, tv b] w fun e w' => e = .returned (.bool (tin a b)) ∧ Below w.heap.size w w' := by
  have HA := fun W => rMay_any a W
  have HB := fun W => rMay_any b W
  have HM := hid fun (t : Tn) i hi W => rMk t i hi W
  obtain ⟨V, hV⟩ : ∃ V, V = tin a b := ⟨_, rfl⟩
  rw [← hV]
  unfold tv at HA HB HM ⊢
  cases ha : tmay a
  · rw [ha] at HA
    obtain rfl : V = false := by rw [hV]; unfold tin; rw [ha]; rfl
    have HA' := hid HA
    clear HA HB ha hV
    go_enter Try.func24, Try.ntmps24
    go_wp2_with fail
    refine (HA'.out _).mono ?_
    rintro e w1 ⟨rfl, b1⟩
    have hb : Below w.heap.size w w1 := (((Below.refl _ _).alloc (Nat.le_refl _) _).alloc (by simp) _).trans (b1.mono (by simp; omega))
    obtain ⟨hc, hf⟩ := bcell b1
    have hz : w.heap.size + 1 < w1.heap.size := by have := b1.size; simp at this; omega
    have HW := hid hb
    clear b1 hb
    go_wp2
    go_ret
    exact ⟨rfl, HW.out⟩
  rw [ha] at HA
  have HA' := hid HA
  cases hb : tmay b
  · rw [hb] at HB
    obtain rfl : V = false := by rw [hV]; unfold tin; rw [ha, hb]; rfl
    have HB' := hid HB
    clear HA HB ha hb hV
    go_enter Try.func24, Try.ntmps24
    go_wp2_with fail
    refine (HA'.out _).mono ?_
    rintro e w1 ⟨rfl, b1⟩
    have hb : Below w.heap.size w w1 := (((Below.refl _ _).alloc (Nat.le_refl _) _).alloc (by simp) _).trans (b1.mono (by simp; omega))
    obtain ⟨hc, hf⟩ := bcell b1
    have hz : w.heap.size + 1 < w1.heap.size := by have := b1.size; simp at this; omega
    have HW := hid hb
    clear b1 hb
    go_wp2_with fail
    refine (HB'.out _).mono ?_
    rintro e w2 ⟨rfl, b2⟩
    have hb : Below w.heap.size w w2 := HW.out.trans (b2.mono (by omega))
    have HW := hid hb
    clear b2 hb
    go_wp2
    go_ret
    exact ⟨rfl, HW.out⟩
  rw [hb] at HB
  have HB' := hid HB
  have hVV : V = true ↔ ∀ i, i < 64 → inb a b i = true := by rw [hV]; exact in_inb ha hb
  have HV := hid hVV
  clear HA HB ha hb hV hVV
  go_enter Try.func24, Try.ntmps24
  go_wp2_with fail
  refine (HA'.out _).mono ?_
  rintro e w1 ⟨rfl, b1⟩
  have I : I2 w a b w1 := ⟨((TC.new rfl).alloc _).below b1, (TC.new (by simp)).below b1, (((Below.refl _ _).alloc (Nat.le_refl _) _).alloc (by simp) _).trans (b1.mono (by simp; omega))⟩
  have p0 := I.cb.1
  have q0 := I.cb.2.1
  have r0 := I.cb.2.2
  clear b1
  go_wp2_with fail
  refine (HB'.out _).mono ?_
  rintro e w2 ⟨rfl, b2⟩
  clear p0 q0 r0
  have I00 := hid (I.next b2)
  clear b2 I
  go_wp2_with fail
  go_loopw [5] (fun i wr => ∃ k : Nat, k ≤ 64 ∧ i = .int .i64 k ∧ Hid (∀ j, j < k → inb a b j = true) ∧ Hid (I2 w a b wr)) (fun i _ => 64 - (intOf i).toNat)
  case atStart => exact ⟨0, by omega, rfl, hid (fun j hj => by omega), I00⟩
  case round =>
    clear I00
    obtain ⟨k, hk, rfl, HP, I0⟩ := hrel
    obtain ⟨wo, rfl⟩ : ∃ wo : World, wo = wr := ⟨_, rfl⟩
    by_cases hlt : k < 64
    · have hlt' : (k : Int) < 64 := by omega
      have q0 := I0.out.ca.2.1
      have r0 := I0.out.ca.2.2
      have q1 := I0.out.cb.2.1
      have r1 := I0.out.cb.2.2
      obtain ⟨ma, hma⟩ : ∃ ma, ma = mM (kz a k) (ko a k) := ⟨_, rfl⟩
      obtain ⟨mb, hmb⟩ : ∃ mb, mb = mM (kz b k) (ko b k) := ⟨_, rfl⟩
      obtain ⟨mo, hmo⟩ : ∃ mo, mo = mM (kz a k || kz b k) (ko a k || ko b k) := ⟨_, rfl⟩
      have hor : bits .or .i64 ma mb = mo := by rw [hma, hmb, hmo, mM_or]
      have HKa0 := HM.out a k hlt
      have HKb0 := HM.out b k hlt
      rw [← hma] at HKa0
      rw [← hmb] at HKb0
      have HKa := hid HKa0
      have HKb := hid HKb0
      have hq1 : (mo == mb) = inb a b k := by rw [hmo, hmb]; rfl
      have hq2 : (mo != mb) = !inb a b k := by rw [← hq1]; rfl
      have HG := hid (show inb a b k = true → ∀ j, j < k + 1 → inb a b j = true from fun h j hj => (Nat.lt_succ_iff_lt_or_eq.1 hj).elim (fun q => HP.out j q) (fun q => q ▸ h))
      have HF := hid (show inb a b k = false → V = false from fun h => Bool.eq_false_iff.2 fun hv => by have := HV.out.1 hv k hlt; rw [h] at this; cases this)
      generalize inb a b k = q at hq1 hq2 HG HF
      clear HP hma hmb hmo HKa0 HKb0
      go_wp2_with fail
      go_region_held3 (fun w' => w'.cell? ⟨w.heap.size, 0, none⟩ = some (.int .u64 (ub a.1)) ∧ w'.cell? ⟨w.heap.size, 1, none⟩ = some (.int .u64 (ub a.2)) ∧ w'.cell? ⟨w.heap.size + 1, 0, none⟩ = some (.int .u64 (ub b.1)) ∧ w'.cell? ⟨w.heap.size + 1, 1, none⟩ = some (.int .u64 (ub b.2)) ∧ Below wo.heap.size wo w')
        (first | (go_split_ands; exact ⟨cn bq (by assumption), cn bq (by assumption), cn bq (by assumption), cn bq (by assumption), below_next (by assumption) bq⟩) | exact ⟨cn (below_dr wo) q0, cn (below_dr wo) r0, cn (below_dr wo) q1, cn (below_dr wo) r1, below_dr wo⟩)
        (first | (go_at_call 60; go_split_ands; (with_reducible refine (HKa.out _).mono ?_); rintro e wq ⟨rfl, bq⟩) | (go_at_call 60; go_split_ands; (with_reducible refine (HKb.out _).mono ?_); rintro e wq ⟨rfl, bq⟩))
      go_split_ands
      obtain ⟨wn, rfl⟩ : ∃ X : World, X = wq := ⟨_, rfl⟩
      have RR := hid (I0.out.next (show Below wo.heap.size wo wn by assumption))
      clear I0 q0 r0 q1 r1 HKa HKb hor
      cases q
      · obtain rfl := HF.out rfl
        have HW := hid RR.out.bel
        clear RR HG HF
        go_wp2
        go_ret
        exact ⟨rfl, HW.out⟩
      · have HG' := hid (HG.out rfl)
        clear HG HF
        go_wp2
        go_roundw
        case rel => first | exact ⟨k + 1, by omega, by go_num, HG', RR⟩ | ((repeat apply Exists.intro); exact ⟨⟨k + 1, by omega, by go_num, HG', RR⟩, rfl⟩)
        case measure => simp [intOf]; omega
    · have hk64 : k = 64 := by omega
      subst hk64
      obtain rfl : V = true := HV.out.2 HP.out
      have HW := hid I0.out.bel
      clear I0
      go_wp2
      go_ret
      exact ⟨rfl, HW.out⟩
end Go.Proofs.Ytbinbjfpjielkaa
