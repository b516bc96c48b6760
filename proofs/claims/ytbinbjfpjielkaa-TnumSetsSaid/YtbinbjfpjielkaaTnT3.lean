/-
  Contract of the document's Meet.
-/
import Derived.Test.YtbinbjfpjielkaaTnT2
import Derived.Test.YtbinbjfpjielkaaTnHp
namespace Go.Proofs.Ytbinbjfpjielkaa
set_option linter.unusedSimpArgs false
set_option linter.unusedVariables false
open Go.ChangeShapes Go.WideShapes Go.ChangeAt Go.RowKit

theorem meet_zo {a b : Tn} (ha : tmay a = true) (hb : tmay b = true) : meetB a b = true ↔ ∀ i, i < 64 → ((kz a i && kz b i) || (ko a i && ko b i)) = true := by
  rw [meetB_iff ha hb]
  constructor <;> intro h i hi <;> (
    have e := h i hi
    have m1 := may_bit ha i
    have m2 := may_bit hb i
    unfold kz ko at *
    revert e m1 m2
    cases bt a.1 i <;> cases bt a.2 i <;> cases bt b.1 i <;> cases bt b.2 i <;> simp)
theorem meet_made {a b : Tn} (ha : tmay a = true) (hb : tmay b = true) (h : meetB a b = true) : madeT (fun i => kz a i && kz b i) (fun i => ko a i && ko b i) = meetT a b := by
  rw [meetB_iff ha hb] at h
  apply t_ext
  · intro i hi
    rw [madeV_bit _ _ _ hi]
    have e := h i hi
    have m1 := may_bit ha i
    have m2 := may_bit hb i
    unfold meetT kz ko
    simp only [bt_and, bt_or]
    revert e m1 m2
    cases bt a.1 i <;> cases bt a.2 i <;> cases bt b.1 i <;> cases bt b.2 i <;> simp
  · intro i hi
    rw [madeM_bit _ _ _ hi]
    have e := h i hi
    have m1 := may_bit ha i
    have m2 := may_bit hb i
    unfold meetT kz ko
    simp only [bt_and, bt_or]
    revert e m1 m2
    cases bt a.1 i <;> cases bt a.2 i <;> cases bt b.1 i <;> cases bt b.2 i <;> simp
set_option maxRecDepth 100000 in
set_option maxHeartbeats 4000000 in
theorem rMeet_any (a b : Tn) (w : World) : Calls Try.prog 17 #[tv a, tv b] w fun e w' => e = .returned (.tuple #[tv (if meetB a b then meetT a b else t0), .bool (meetB a b)]) ∧ Below w.heap.size w w' := by
  have HA := fun W => rMay_any a W
  have HB := fun W => rMay_any b W
  have HM := hid fun (t : Tn) i hi W => rMk t i hi W
  obtain ⟨E, hE⟩ : ∃ E, E = meetB a b := ⟨_, rfl⟩
  rw [← hE]
  obtain ⟨R, hR⟩ : ∃ R, R = (if E then meetT a b else t0) := ⟨_, rfl⟩
  rw [← hR]
  unfold tv at HA HB HM ⊢
  cases ha : tmay a
  · rw [ha] at HA
    obtain rfl : E = false := by rw [hE]; unfold meetB; rw [ha]; rfl
    obtain rfl : R = t0 := by rw [hR]; rfl
    have HA' := hid HA
    clear HA HB ha hR hE
    go_enter Try.func17, Try.ntmps17
    go_wp2_with fail
    refine (HA'.out _).mono ?_
    rintro e w1 ⟨rfl, b1⟩
    have hb : Below w.heap.size w w1 := (((((Below.refl _ _).alloc (Nat.le_refl _) _).alloc (by simp) _).alloc (by simp; omega) _).trans (b1.mono (by simp; omega)))
    obtain ⟨hc, hf⟩ := bcell b1
    have hz : w.heap.size + 1 + 1 < w1.heap.size := by have := b1.size; simp at this; omega
    have hy : w.heap.size + 1 < w1.heap.size := by omega
    have hx : w.heap.size < w1.heap.size := by omega
    have HW := hid hb
    clear b1 hb
    go_wp2
    refine bodyPost_ret (v := .tuple #[.agg #[.int .u64 0, .int .u64 0], .bool false]) (by simp [results, Try.results17, go_sem, hc, hz]; try rfl) rfl ⟨rfl, ?_⟩
    exact (HW.out.setCell (by simp; omega) _).setCell (by simp; omega) _
  rw [ha] at HA
  have HA' := hid HA
  cases hb : tmay b
  · rw [hb] at HB
    obtain rfl : E = false := by rw [hE]; unfold meetB; rw [ha, hb]; rfl
    obtain rfl : R = t0 := by rw [hR]; rfl
    have HB' := hid HB
    clear HA HB ha hb hR hE
    go_enter Try.func17, Try.ntmps17
    go_wp2_with fail
    refine (HA'.out _).mono ?_
    rintro e w1 ⟨rfl, b1⟩
    have hb : Below w.heap.size w w1 := (((((Below.refl _ _).alloc (Nat.le_refl _) _).alloc (by simp) _).alloc (by simp; omega) _).trans (b1.mono (by simp; omega)))
    obtain ⟨hc, hf⟩ := bcell b1
    have hz : w.heap.size + 1 + 1 < w1.heap.size := by have := b1.size; simp at this; omega
    have hy : w.heap.size + 1 < w1.heap.size := by omega
    have hx : w.heap.size < w1.heap.size := by omega
    have HW := hid hb
    clear b1 hb
    go_wp2_with fail
    refine (HB'.out _).mono ?_
    rintro e w2 ⟨rfl, b2⟩
    have hb : Below w.heap.size w w2 := HW.out.trans (b2.mono (by omega))
    obtain ⟨hc2, hf2⟩ := bcell b2
    have hz2 : w.heap.size + 1 + 1 < w2.heap.size := by have := b2.size; omega
    have HW := hid hb
    clear b2 hb
    go_wp2
    refine bodyPost_ret (v := .tuple #[.agg #[.int .u64 0, .int .u64 0], .bool false]) (by simp [results, Try.results17, go_sem, hc, hz, hc2, hz2]; try rfl) rfl ⟨rfl, ?_⟩
    exact (HW.out.setCell (by simp; omega) _).setCell (by simp; omega) _
  rw [hb] at HB
  have HB' := hid HB
  obtain ⟨z, hz⟩ : ∃ z, z = (fun i => kz a i && kz b i) := ⟨_, rfl⟩
  obtain ⟨o, ho⟩ : ∃ o, o = (fun i => ko a i && ko b i) := ⟨_, rfl⟩
  have hEE : E = true ↔ ∀ i, i < 64 → (z i || o i) = true := by rw [hE, hz, ho]; exact meet_zo ha hb
  have hRR : E = true → R = madeT z o := fun h => by rw [hR, h, hz, ho]; exact (meet_made ha hb (by rw [← hE]; exact h)).symm
  have hR0 : E = false → R = t0 := fun h => by rw [hR, h]; rfl
  have HZ := hid hz
  have HO := hid ho
  have HR := hid hRR
  have HR0 := hid hR0
  have HE := hid hEE
  clear HA HB ha hb hR hE hz ho hEE hRR hR0
  have hZ := hid (show Z64 = Z64 from rfl)
  go_enter Try.func17, Try.ntmps17
  go_wp2_with fail
  refine (HA'.out _).mono ?_
  rintro e w1 ⟨rfl, b1⟩
  have T0 : TC w1 w.heap.size a := (((TC.new rfl).alloc _).alloc _).below b1
  have T1 : TC w1 (w.heap.size + 1) b := ((TC.new (by simp)).alloc _).below b1
  have T2 : TB w1 (w.heap.size + 1 + 1) t0 := (TB.new (a := t0) (by simp)).below b1
  have B : Below w.heap.size w w1 := (((((Below.refl _ _).alloc (Nat.le_refl _) _).alloc (by simp) _).alloc (by simp; omega) _).trans (b1.mono (by simp; omega)))
  have p0 := T1.1
  have q0 := T1.2.1
  have r0 := T1.2.2
  clear b1
  go_wp2_with fail
  refine (HB'.out _).mono ?_
  rintro e w2 ⟨rfl, b2⟩
  clear p0 q0 r0
  replace T0 := T0.below b2
  replace T1 := T1.below b2
  replace T2 := T2.below b2
  replace B := B.trans (b2.mono B.size)
  clear b2
  have X0 : J2 w a b w2.heap.size z o 0 (w2.alloc (.cells Z64 69)) := by
    have ba := (Below.refl w2.heap.size w2).alloc (Nat.le_refl _) (.cells Z64 69)
    refine ⟨T0.below ba, T1.below ba, T2.below ba, ?_, B.alloc B.size _, T2.1.1⟩
    rw [pref_zero, pref_zero]
    exact AR.zero Z64_get rfl
  have I00 := hid X0
  clear X0 T0 T1 T2 B
  unfold Z64 at I00
  go_wp2_with fail
  go_loopw [7] (fun i wr => ∃ k : Nat, k ≤ 64 ∧ i = .int .i64 k ∧ Hid (∀ j, j < k → (z j || o j) = true) ∧ Hid (J2 w a b w2.heap.size z o k wr)) (fun i _ => 64 - (intOf i).toNat)
  case atStart => exact ⟨0, by omega, rfl, hid (fun j hj => by omega), I00⟩
  case round =>
    clear I00
    obtain ⟨k, hk, rfl, HP, I0⟩ := hrel
    obtain ⟨wo, rfl⟩ : ∃ wo : World, wo = wr := ⟨_, rfl⟩
    by_cases hlt : k < 64
    · have hlt' : (k : Int) < 64 := by omega
      have q0 := I0.out.ca.2.1
      have r0 := I0.out.ca.2.2
      have q1 := I0.out.cb.2.1
      have r1 := I0.out.cb.2.2
      obtain ⟨ma, hma⟩ : ∃ ma, ma = mM (kz a k) (ko a k) := ⟨_, rfl⟩
      obtain ⟨mb, hmb⟩ : ∃ mb, mb = mM (kz b k) (ko b k) := ⟨_, rfl⟩
      obtain ⟨mo, hmo⟩ : ∃ mo, mo = mM (z k) (o k) := ⟨_, rfl⟩
      have hand : bits .and .i64 ma mb = mo := by rw [hma, hmb, hmo, mM_and, HZ.out, HO.out]
      have HKa0 := HM.out a k hlt
      have HKb0 := HM.out b k hlt
      rw [← hma] at HKa0
      rw [← hmb] at HKb0
      have HKa := hid HKa0
      have HKb := hid HKb0
      have hq0 : (mo == 0) = !(z k || o k) := by rw [hmo, mM_eqz]; cases z k <;> cases o k <;> rfl
      have HG := hid (show (z k || o k) = true → ∀ j, j < k + 1 → (z j || o j) = true from fun h j hj => (Nat.lt_succ_iff_lt_or_eq.1 hj).elim (fun q => HP.out j q) (fun q => q ▸ h))
      have HF := hid (show (z k || o k) = false → E = false from fun h => Bool.eq_false_iff.2 fun hv => by have := HE.out.1 hv k hlt; rw [h] at this; cases this)
      have hmm := hid hmo
      generalize (z k || o k) = q at hq0 HG HF
      clear HP hma hmb hmo HKa0 HKb0
      have d1 := I0.out.res.1.2.1
      go_wp2_with fail
      go_region_law (first | (go_simp; go_at_call 60; (with_reducible refine (HKa.out _).mono ?_); rintro e wq ⟨rfl, bq⟩; (first | (have Jq := Jq.next bq) | (have Jq := (I0.out.next (below_dr _)).next bq)); have q0 := Jq.ca.2.1; have r0 := Jq.ca.2.2; have q1 := Jq.cb.2.1; have r1 := Jq.cb.2.2; have y1 := (Jq.arr.2 k hlt).1; have y2 := (Jq.arr.2 k hlt).2) | (go_simp; go_at_call 60; (with_reducible refine (HKb.out _).mono ?_); rintro e wq ⟨rfl, bq⟩; (first | (have Jq := Jq.next bq) | (have Jq := (I0.out.next (below_dr _)).next bq)); have q0 := Jq.ca.2.1; have r0 := Jq.ca.2.2; have q1 := Jq.cb.2.1; have r1 := Jq.cb.2.2; have y1 := (Jq.arr.2 k hlt).1; have y2 := (Jq.arr.2 k hlt).2))
      all_goals
        have RR := hid (Jq.put hlt _ hmm.out)
        clear Jq q0 r0 q1 r1 HKa HKb hmm I0 hand d1
        cases q
        · obtain rfl := HF.out rfl
          obtain rfl := HR0.out rfl
          have e1 := RR.out.res.1.2.1
          have e2 := RR.out.res.1.2.2
          have e3 := RR.out.res.2.1
          have e4 := RR.out.res.2.2
          have e5 := RR.out.res.1.1
          have hbg := RR.out.big
          have hne1 : w2.heap.size ≠ w.heap.size + 1 + 1 := by omega
          have HW := hid RR.out.bel
          clear RR HG HF
          go_wp2
          refine bodyPost_ret (v := .tuple #[.agg #[.int .u64 0, .int .u64 0], .bool false]) (by simp [results, Try.results17, go_sem, e1, e2, e5]; try rfl) rfl ⟨rfl, ?_⟩
          exact (HW.out.setCell (by simp; omega) _).setCell (by simp; omega) _
        · have HG' := hid (HG.out rfl)
          clear HG HF
          go_wp2
          go_roundw
          case rel => first | exact ⟨k + 1, by omega, by go_num, HG', RR⟩ | ((repeat apply Exists.intro); exact ⟨⟨k + 1, by omega, by go_num, HG', RR⟩, rfl⟩)
          case measure => simp [intOf]; omega
    · have hk64 : k = 64 := by omega
      subst hk64
      have d1 := I0.out.res.1.2.1
      have d2 := I0.out.res.1.2.2
      have d3 := I0.out.res.2.1
      have d4 := I0.out.res.2.2
      have HS := hid (show wo.rangeAt w2.heap.size 0 (mL (pref z 64) (pref o 64)) from I0.out.arr.range)
      have HMd := hid (fun W => rMade_any (pref z 64) (pref o 64) _ rfl W)
      obtain rfl : E = true := HE.out.2 HP.out
      have he : madeT (pref z 64) (pref o 64) = R := by rw [HR.out rfl]; exact madeT_congr _ _ _ _ (fun i hi => pref_all z i hi) (fun i hi => pref_all o i hi)
      rw [he] at HMd
      clear he
      obtain ⟨L, hL⟩ : ∃ L, L = mL (pref z 64) (pref o 64) := ⟨_, rfl⟩
      rw [← hL] at HS HMd
      have hLl : L.length = 64 := by rw [hL]; exact mL_len _ _
      have HLL := hid hLl
      clear hL hLl
      unfold tv at HMd
      go_wp2_with ((with_reducible refine at_load 69 ?_); refine wpList_load_mid rfl 69 _ rfl w2.heap.size 0 rfl L _ HS.out Try.underlying69 rfl (by rw [HLL.out]; exact infoA) ?_)
      refine (HMd.out _).mono ?_
      rintro e w3 ⟨rfl, b3⟩
      have R1 := I0.out.res.below b3
      have e1 := R1.1.2.1
      have e2 := R1.1.2.2
      have e3 := R1.2.1
      have e4 := R1.2.2
      have e5 := R1.1.1
      have HW := hid (I0.out.next b3).bel
      clear R1 b3 d1 d2 d3 d4 I0
      go_wp2
      refine bodyPost_ret (v := .tuple #[.agg #[.int .u64 (ub R.1), .int .u64 (ub R.2)], .bool true]) (by simp [results, Try.results17, go_sem, e1, e2, e5]; try rfl) rfl ⟨rfl, ?_⟩
      exact (HW.out.setCell (by simp; omega) _).setCell (by simp; omega) _
end Go.Proofs.Ytbinbjfpjielkaa
