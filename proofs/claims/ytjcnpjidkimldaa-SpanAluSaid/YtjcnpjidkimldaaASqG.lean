/-
  Contract of the document's Alu, operation by operation.
-/
import Derived.Test.YtjcnpjidkimldaaASqF
namespace Go.Proofs.Ytjcnpjidkimldaa
set_option linter.unusedSimpArgs false
set_option linter.unusedVariables false
set_option maxRecDepth 100000
set_option maxRecDepth 100000
open Go.ChangeShapes Go.WideShapes Go.ChangeAt Go.RowKit Sq


set_option maxHeartbeats 16000000 in
theorem qAlu_0_true (a b : Tn) (w : World) (ha : mayS a = true) (hb : mayS b = true) :
    Calls Try.prog 6 #[.int .i64 0, .bool true, tv a, tv b] w fun e w' => e = .returned (.tuple #[tv (resS 0 true (cutK a (sizeW true)) (cutK b (sizeW true))), .int .i64 0]) ∧ Below w.heap.size w w' := by
  have lA : a.1.toNat ≤ a.2.toNat := by unfold mayS at ha; simpa using ha
  have lB : b.1.toNat ≤ b.2.toNat := by unfold mayS at hb; simpa using hb
  have mA : a.2.toNat < modW true := a.2.isLt
  have mB : b.2.toNat < modW true := b.2.isLt
  have HA := fun W => qMay_any a W
  have HC := fun W => qMay_any b W
  rw [ha] at HA
  rw [hb] at HC
  rw [show sizeW true = 64 from rfl, cut_all a ha, cut_all b hb]
  clear ha hb
  have HT := fun W => qTop_any 64 W (by decide)
  rw [show (1#64 <<< 64 - 1#64 : B64) = topW true by decide] at HT
  rw [show resS 0 true a b = sumS true a b from rfl, ← sum_doc true a b lA lB mA mB]
  unfold docSum
  have e1 : decide (ub (topW true - b.1) < ub a.1) = decide ((topW true - b.1).toNat < a.1.toNat) := by rw [decide_eq_decide, ub_ltN]
  have e2 : decide (ub (topW true - b.2) < ub a.2) = decide ((topW true - b.2).toNat < a.2.toNat) := by rw [decide_eq_decide, ub_ltN]
  obtain ⟨R, hR⟩ : ∃ R : Tn, R = if decide ((topW true - b.1).toNat < a.1.toNat) = decide ((topW true - b.2).toNat < a.2.toNat) then ((a.1 + b.1) &&& topW true, (a.2 + b.2) &&& topW true) else (0#64, topW true) := ⟨_, rfl⟩
  rw [← hR]
  rw [← e1, ← e2] at hR
  replace hR := hid hR
  clear e1 e2
  have I0 : AI w a b (((w.alloc (.cells #[.int .u64 (ub a.1), .int .u64 (ub a.2)] 24)).alloc (.cells #[.int .u64 (ub b.1), .int .u64 (ub b.2)] 24)).alloc (.cells #[.int .u64 0, .int .u64 0] 24)) := by
    refine ⟨((TB.new rfl).below ((Below.refl _ _).alloc (Nat.le_refl _) _)).below ((Below.refl _ _).alloc (Nat.le_refl _) _), (TB.new (by simp)).below ((Below.refl _ _).alloc (Nat.le_refl _) _), TB.new (a := t0) (by simp), (((Below.refl _ _).alloc (Nat.le_refl _) _).alloc (by simp) _).alloc (by simp; omega) _⟩
  have I1 := hid I0
  clear I0
  generalize topW true = T at *
  replace HT := hid HT
  replace HA := hid HA
  replace HC := hid HC
  unfold tv at *
  go_enter Try.func6, Try.ntmps6
  go_wp2_with fail
  refine (HA.out _).mono ?_
  rintro e w1 ⟨rfl, z⟩
  have I2 := hid (I1.out.next z)
  clear I1 z
  have q1 := I2.out.cb.1.2.1
  have q2 := I2.out.cb.1.2.2
  go_wp2_with fail
  refine (HC.out _).mono ?_
  rintro e w2 ⟨rfl, z⟩
  have I3 := hid (I2.out.next z)
  clear I2 z q1 q2 w1
  go_wp2_with fail
  refine (HT.out _).mono ?_
  rintro e w_ ⟨rfl, hw_⟩
  subst w_
  have I6 := hid (I3.out.next ((Below.refl _ _).alloc (Nat.le_refl _) (.cells #[.int .u64 0, .int .u64 (ub T)] 24)))
  have N1 : TC (w2.alloc (.cells #[.int .u64 0, .int .u64 (ub T)] 24)) w2.heap.size (0#64, T) := TC.new (a := (0#64, T)) rfl
  have NF := hid N1
  clear I3 N1
  have p1 := I6.out.ca.1.2.1
  have p2 := I6.out.ca.1.2.2
  have p3 := I6.out.cb.1.2.1
  have p4 := I6.out.cb.1.2.2
  have s0 := I6.out.res.1.1
  have s1 := I6.out.res.1.2.1
  have s2 := I6.out.res.1.2.2
  have f1 := I6.out.res.2.1
  have f2 := I6.out.res.2.2
  have n1 := NF.out.2.1
  have n2 := NF.out.2.2
  have hR' := hR.out
  clear hR
  cases g1 : decide (ub (T - b.1) < ub a.1) <;> cases g2 : decide (ub (T - b.2) < ub a.2)
  · rw [g1, g2] at hR'
    obtain rfl := hR'.trans (if_pos rfl)
    clear hR'
    go_wp2_with fail
    exact bodyPost_ret (v := .tuple #[.agg #[.int .u64 (ub ((a.1 + b.1) &&& T)), .int .u64 (ub ((a.2 + b.2) &&& T))], .int .i64 0]) (by simp [results, Try.results6, go_sem, s0, s1, s2, f1, f2]; try rfl) rfl ⟨rfl, (I6.out.bel.setCell (by simp; try omega) _).setCell (by simp; try omega) _⟩
  · rw [g1, g2] at hR'
    obtain rfl := hR'.trans (if_neg (by decide))
    clear hR'
    go_wp2_with fail
    exact bodyPost_ret (v := .tuple #[.agg #[.int .u64 (ub 0#64), .int .u64 (ub T)], .int .i64 0]) (by simp [results, Try.results6, go_sem, s0, s1, s2, f1, f2, n1, n2]; try rfl) rfl ⟨rfl, (I6.out.bel.setCell (by simp; try omega) _).setCell (by simp; try omega) _⟩
  · rw [g1, g2] at hR'
    obtain rfl := hR'.trans (if_neg (by decide))
    clear hR'
    go_wp2_with fail
    exact bodyPost_ret (v := .tuple #[.agg #[.int .u64 (ub 0#64), .int .u64 (ub T)], .int .i64 0]) (by simp [results, Try.results6, go_sem, s0, s1, s2, f1, f2, n1, n2]; try rfl) rfl ⟨rfl, (I6.out.bel.setCell (by simp; try omega) _).setCell (by simp; try omega) _⟩
  · rw [g1, g2] at hR'
    obtain rfl := hR'.trans (if_pos rfl)
    clear hR'
    go_wp2_with fail
    exact bodyPost_ret (v := .tuple #[.agg #[.int .u64 (ub ((a.1 + b.1) &&& T)), .int .u64 (ub ((a.2 + b.2) &&& T))], .int .i64 0]) (by simp [results, Try.results6, go_sem, s0, s1, s2, f1, f2]; try rfl) rfl ⟨rfl, (I6.out.bel.setCell (by simp; try omega) _).setCell (by simp; try omega) _⟩

set_option maxHeartbeats 16000000 in
theorem qAlu_0_false (a b : Tn) (w : World) (ha : mayS a = true) (hb : mayS b = true) :
    Calls Try.prog 6 #[.int .i64 0, .bool false, tv a, tv b] w fun e w' => e = .returned (.tuple #[tv (resS 0 false (cutK a (sizeW false)) (cutK b (sizeW false))), .int .i64 0]) ∧ Below w.heap.size w w' := by
  have HA := fun W => qMay_any a W
  have HC := fun W => qMay_any b W
  rw [ha] at HA
  rw [hb] at HC
  have HX := fun W => qCut_any a 32 W
  have HY := fun W => qCut_any b 32 W
  rw [show clampN 32 = 32 from rfl] at HX HY
  rw [show sizeW false = 32 from rfl]
  obtain ⟨-, lA, mA⟩ := cut_nar a ha
  obtain ⟨-, lB, mB⟩ := cut_nar b hb
  generalize cutK a 32 = A at *
  generalize cutK b 32 = B at *
  replace HX := hid HX
  replace HY := hid HY
  clear ha hb
  have HT := fun W => qTop_any 32 W (by decide)
  rw [show (1#64 <<< 32 - 1#64 : B64) = topW false by decide] at HT
  rw [show resS 0 false A B = sumS false A B from rfl, ← sum_doc false A B lA lB mA mB]
  unfold docSum
  have e1 : decide (ub (topW false - B.1) < ub A.1) = decide ((topW false - B.1).toNat < A.1.toNat) := by rw [decide_eq_decide, ub_ltN]
  have e2 : decide (ub (topW false - B.2) < ub A.2) = decide ((topW false - B.2).toNat < A.2.toNat) := by rw [decide_eq_decide, ub_ltN]
  obtain ⟨R, hR⟩ : ∃ R : Tn, R = if decide ((topW false - B.1).toNat < A.1.toNat) = decide ((topW false - B.2).toNat < A.2.toNat) then ((A.1 + B.1) &&& topW false, (A.2 + B.2) &&& topW false) else (0#64, topW false) := ⟨_, rfl⟩
  rw [← hR]
  rw [← e1, ← e2] at hR
  replace hR := hid hR
  clear e1 e2
  have I0 : AI w a b (((w.alloc (.cells #[.int .u64 (ub a.1), .int .u64 (ub a.2)] 24)).alloc (.cells #[.int .u64 (ub b.1), .int .u64 (ub b.2)] 24)).alloc (.cells #[.int .u64 0, .int .u64 0] 24)) := by
    refine ⟨((TB.new rfl).below ((Below.refl _ _).alloc (Nat.le_refl _) _)).below ((Below.refl _ _).alloc (Nat.le_refl _) _), (TB.new (by simp)).below ((Below.refl _ _).alloc (Nat.le_refl _) _), TB.new (a := t0) (by simp), (((Below.refl _ _).alloc (Nat.le_refl _) _).alloc (by simp) _).alloc (by simp; omega) _⟩
  have I1 := hid I0
  clear I0
  generalize topW false = T at *
  replace HT := hid HT
  replace HA := hid HA
  replace HC := hid HC
  unfold tv at *
  go_enter Try.func6, Try.ntmps6
  go_wp2_with fail
  refine (HA.out _).mono ?_
  rintro e w1 ⟨rfl, z⟩
  have I2 := hid (I1.out.next z)
  clear I1 z
  have q1 := I2.out.cb.1.2.1
  have q2 := I2.out.cb.1.2.2
  go_wp2_with fail
  refine (HC.out _).mono ?_
  rintro e w2 ⟨rfl, z⟩
  have I3 := hid (I2.out.next z)
  clear I2 z q1 q2 w1
  have q1 := I3.out.ca.1.2.1
  have q2 := I3.out.ca.1.2.2
  go_wp2_with fail
  refine (HX.out _).mono ?_
  rintro e w3 ⟨rfl, z⟩
  have I4 := hid ((I3.out.next z).putA A)
  have IX := hid (I3.out.next z)
  clear I3 z q1 q2 w2
  have r0 := IX.out.ca.1.1
  have r1 := IX.out.ca.1.2.1
  have r2 := IX.out.ca.1.2.2
  have r3 := IX.out.ca.2.1
  have r4 := IX.out.ca.2.2
  have q1 := I4.out.cb.1.2.1
  have q2 := I4.out.cb.1.2.2
  go_wp2_with fail
  clear IX r0 r1 r2 r3 r4 q1 q2
  generalize (w3.setCell ⟨w.heap.size, 0, none⟩ (.int .u64 (ub A.1))).setCell ⟨w.heap.size, 1, none⟩ (.int .u64 (ub A.2)) = w3' at *
  refine (HY.out _).mono ?_
  rintro e w4 ⟨rfl, z⟩
  have I5 := hid ((I4.out.next z).putB B)
  have IX := hid (I4.out.next z)
  clear I4 z w3'
  have r0 := IX.out.cb.1.1
  have r1 := IX.out.cb.1.2.1
  have r2 := IX.out.cb.1.2.2
  have r3 := IX.out.cb.2.1
  have r4 := IX.out.cb.2.2
  go_wp2_with fail
  clear IX r0 r1 r2 r3 r4
  generalize (w4.setCell ⟨w.heap.size + 1, 0, none⟩ (.int .u64 (ub B.1))).setCell ⟨w.heap.size + 1, 1, none⟩ (.int .u64 (ub B.2)) = w2 at *
  have I3 := I5
  clear I5
  refine (HT.out _).mono ?_
  rintro e w_ ⟨rfl, hw_⟩
  subst w_
  have I6 := hid (I3.out.next ((Below.refl _ _).alloc (Nat.le_refl _) (.cells #[.int .u64 0, .int .u64 (ub T)] 24)))
  have N1 : TC (w2.alloc (.cells #[.int .u64 0, .int .u64 (ub T)] 24)) w2.heap.size (0#64, T) := TC.new (a := (0#64, T)) rfl
  have NF := hid N1
  clear I3 N1
  have p1 := I6.out.ca.1.2.1
  have p2 := I6.out.ca.1.2.2
  have p3 := I6.out.cb.1.2.1
  have p4 := I6.out.cb.1.2.2
  have s0 := I6.out.res.1.1
  have s1 := I6.out.res.1.2.1
  have s2 := I6.out.res.1.2.2
  have f1 := I6.out.res.2.1
  have f2 := I6.out.res.2.2
  have n1 := NF.out.2.1
  have n2 := NF.out.2.2
  have hR' := hR.out
  clear hR
  cases g1 : decide (ub (T - B.1) < ub A.1) <;> cases g2 : decide (ub (T - B.2) < ub A.2)
  · rw [g1, g2] at hR'
    obtain rfl := hR'.trans (if_pos rfl)
    clear hR'
    go_wp2_with fail
    exact bodyPost_ret (v := .tuple #[.agg #[.int .u64 (ub ((A.1 + B.1) &&& T)), .int .u64 (ub ((A.2 + B.2) &&& T))], .int .i64 0]) (by simp [results, Try.results6, go_sem, s0, s1, s2, f1, f2]; try rfl) rfl ⟨rfl, (I6.out.bel.setCell (by simp; try omega) _).setCell (by simp; try omega) _⟩
  · rw [g1, g2] at hR'
    obtain rfl := hR'.trans (if_neg (by decide))
    clear hR'
    go_wp2_with fail
    exact bodyPost_ret (v := .tuple #[.agg #[.int .u64 (ub 0#64), .int .u64 (ub T)], .int .i64 0]) (by simp [results, Try.results6, go_sem, s0, s1, s2, f1, f2, n1, n2]; try rfl) rfl ⟨rfl, (I6.out.bel.setCell (by simp; try omega) _).setCell (by simp; try omega) _⟩
  · rw [g1, g2] at hR'
    obtain rfl := hR'.trans (if_neg (by decide))
    clear hR'
    go_wp2_with fail
    exact bodyPost_ret (v := .tuple #[.agg #[.int .u64 (ub 0#64), .int .u64 (ub T)], .int .i64 0]) (by simp [results, Try.results6, go_sem, s0, s1, s2, f1, f2, n1, n2]; try rfl) rfl ⟨rfl, (I6.out.bel.setCell (by simp; try omega) _).setCell (by simp; try omega) _⟩
  · rw [g1, g2] at hR'
    obtain rfl := hR'.trans (if_pos rfl)
    clear hR'
    go_wp2_with fail
    exact bodyPost_ret (v := .tuple #[.agg #[.int .u64 (ub ((A.1 + B.1) &&& T)), .int .u64 (ub ((A.2 + B.2) &&& T))], .int .i64 0]) (by simp [results, Try.results6, go_sem, s0, s1, s2, f1, f2]; try rfl) rfl ⟨rfl, (I6.out.bel.setCell (by simp; try omega) _).setCell (by simp; try omega) _⟩

set_option maxHeartbeats 16000000 in
theorem qAlu_2_true (a b : Tn) (w : World) (ha : mayS a = true) (hb : mayS b = true) :
    Calls Try.prog 6 #[.int .i64 2, .bool true, tv a, tv b] w fun e w' => e = .returned (.tuple #[tv (resS 2 true (cutK a (sizeW true)) (cutK b (sizeW true))), .int .i64 0]) ∧ Below w.heap.size w w' := by
  have lA : a.1.toNat ≤ a.2.toNat := by unfold mayS at ha; simpa using ha
  have lB : b.1.toNat ≤ b.2.toNat := by unfold mayS at hb; simpa using hb
  have mA : a.2.toNat < modW true := a.2.isLt
  have mB : b.2.toNat < modW true := b.2.isLt
  have HA := fun W => qMay_any a W
  have HC := fun W => qMay_any b W
  rw [ha] at HA
  rw [hb] at HC
  rw [show sizeW true = 64 from rfl, cut_all a ha, cut_all b hb]
  clear ha hb
  have HT := fun W => qTop_any 64 W (by decide)
  rw [show (1#64 <<< 64 - 1#64 : B64) = topW true by decide] at HT
  rw [show resS 2 true a b = prodS true a b from rfl, ← prod_doc true a b]
  obtain ⟨R, hR⟩ : ∃ R : Tn, R = docProd true a b := ⟨_, rfl⟩
  rw [← hR]
  unfold docProd at hR
  have HP' := hid fun W => qTimes_any a.2 b.2 (topW true) W
  generalize decide ((topW true).toNat < a.2.toNat * b.2.toNat) = q at *
  replace hR := hid hR
  have I0 : AI w a b (((w.alloc (.cells #[.int .u64 (ub a.1), .int .u64 (ub a.2)] 24)).alloc (.cells #[.int .u64 (ub b.1), .int .u64 (ub b.2)] 24)).alloc (.cells #[.int .u64 0, .int .u64 0] 24)) := by
    refine ⟨((TB.new rfl).below ((Below.refl _ _).alloc (Nat.le_refl _) _)).below ((Below.refl _ _).alloc (Nat.le_refl _) _), (TB.new (by simp)).below ((Below.refl _ _).alloc (Nat.le_refl _) _), TB.new (a := t0) (by simp), (((Below.refl _ _).alloc (Nat.le_refl _) _).alloc (by simp) _).alloc (by simp; omega) _⟩
  have I1 := hid I0
  clear I0
  generalize topW true = T at *
  replace HT := hid HT
  replace HA := hid HA
  replace HC := hid HC
  unfold tv at *
  go_enter Try.func6, Try.ntmps6
  go_wp2_with fail
  refine (HA.out _).mono ?_
  rintro e w1 ⟨rfl, z⟩
  have I2 := hid (I1.out.next z)
  clear I1 z
  have q1 := I2.out.cb.1.2.1
  have q2 := I2.out.cb.1.2.2
  go_wp2_with fail
  refine (HC.out _).mono ?_
  rintro e w2 ⟨rfl, z⟩
  have I3 := hid (I2.out.next z)
  clear I2 z q1 q2 w1
  go_wp2_with fail
  refine (HT.out _).mono ?_
  rintro e w_ ⟨rfl, hw_⟩
  subst w_
  have I6 := hid (I3.out.next ((Below.refl _ _).alloc (Nat.le_refl _) (.cells #[.int .u64 0, .int .u64 (ub T)] 24)))
  have N1 : TC (w2.alloc (.cells #[.int .u64 0, .int .u64 (ub T)] 24)) w2.heap.size (0#64, T) := TC.new (a := (0#64, T)) rfl
  have NF := hid N1
  clear I3 N1
  have p1 := I6.out.ca.1.2.1
  have p2 := I6.out.ca.1.2.2
  have p3 := I6.out.cb.1.2.1
  have p4 := I6.out.cb.1.2.2
  go_wp2_with fail
  refine (HP'.out _).mono ?_
  rintro e w_ ⟨rfl, hw_⟩
  subst w_
  have s0 := I6.out.res.1.1
  have s1 := I6.out.res.1.2.1
  have s2 := I6.out.res.1.2.2
  have f1 := I6.out.res.2.1
  have f2 := I6.out.res.2.2
  have n1 := NF.out.2.1
  have n2 := NF.out.2.2
  cases q
  · go_wp2_with fail
    have hR' := hR.out.trans (if_neg (by decide))
    clear hR
    subst hR'
    exact bodyPost_ret (v := .tuple #[.agg #[.int .u64 (ub (a.1 * b.1)), .int .u64 (ub (a.2 * b.2))], .int .i64 0]) (by simp [results, Try.results6, go_sem, s0, s1, s2, f1, f2]; try rfl) rfl ⟨rfl, (I6.out.bel.setCell (by simp; try omega) _).setCell (by simp; try omega) _⟩
  · go_wp2_with fail
    have hR2 := hR.out.trans (if_pos trivial)
    clear hR
    subst hR2
    exact bodyPost_ret (v := .tuple #[.agg #[.int .u64 (ub 0#64), .int .u64 (ub T)], .int .i64 0]) (by simp [results, Try.results6, go_sem, s0, s1, s2, f1, f2, n1, n2]; try rfl) rfl ⟨rfl, (I6.out.bel.setCell (by simp; try omega) _).setCell (by simp; try omega) _⟩

set_option maxHeartbeats 16000000 in
theorem qAlu_2_false (a b : Tn) (w : World) (ha : mayS a = true) (hb : mayS b = true) :
    Calls Try.prog 6 #[.int .i64 2, .bool false, tv a, tv b] w fun e w' => e = .returned (.tuple #[tv (resS 2 false (cutK a (sizeW false)) (cutK b (sizeW false))), .int .i64 0]) ∧ Below w.heap.size w w' := by
  have HA := fun W => qMay_any a W
  have HC := fun W => qMay_any b W
  rw [ha] at HA
  rw [hb] at HC
  have HX := fun W => qCut_any a 32 W
  have HY := fun W => qCut_any b 32 W
  rw [show clampN 32 = 32 from rfl] at HX HY
  rw [show sizeW false = 32 from rfl]
  obtain ⟨-, lA, mA⟩ := cut_nar a ha
  obtain ⟨-, lB, mB⟩ := cut_nar b hb
  generalize cutK a 32 = A at *
  generalize cutK b 32 = B at *
  replace HX := hid HX
  replace HY := hid HY
  clear ha hb
  have HT := fun W => qTop_any 32 W (by decide)
  rw [show (1#64 <<< 32 - 1#64 : B64) = topW false by decide] at HT
  rw [show resS 2 false A B = prodS false A B from rfl, ← prod_doc false A B]
  obtain ⟨R, hR⟩ : ∃ R : Tn, R = docProd false A B := ⟨_, rfl⟩
  rw [← hR]
  unfold docProd at hR
  have HP' := hid fun W => qTimes_any A.2 B.2 (topW false) W
  generalize decide ((topW false).toNat < A.2.toNat * B.2.toNat) = q at *
  replace hR := hid hR
  have I0 : AI w a b (((w.alloc (.cells #[.int .u64 (ub a.1), .int .u64 (ub a.2)] 24)).alloc (.cells #[.int .u64 (ub b.1), .int .u64 (ub b.2)] 24)).alloc (.cells #[.int .u64 0, .int .u64 0] 24)) := by
    refine ⟨((TB.new rfl).below ((Below.refl _ _).alloc (Nat.le_refl _) _)).below ((Below.refl _ _).alloc (Nat.le_refl _) _), (TB.new (by simp)).below ((Below.refl _ _).alloc (Nat.le_refl _) _), TB.new (a := t0) (by simp), (((Below.refl _ _).alloc (Nat.le_refl _) _).alloc (by simp) _).alloc (by simp; omega) _⟩
  have I1 := hid I0
  clear I0
  generalize topW false = T at *
  replace HT := hid HT
  replace HA := hid HA
  replace HC := hid HC
  unfold tv at *
  go_enter Try.func6, Try.ntmps6
  go_wp2_with fail
  refine (HA.out _).mono ?_
  rintro e w1 ⟨rfl, z⟩
  have I2 := hid (I1.out.next z)
  clear I1 z
  have q1 := I2.out.cb.1.2.1
  have q2 := I2.out.cb.1.2.2
  go_wp2_with fail
  refine (HC.out _).mono ?_
  rintro e w2 ⟨rfl, z⟩
  have I3 := hid (I2.out.next z)
  clear I2 z q1 q2 w1
  have q1 := I3.out.ca.1.2.1
  have q2 := I3.out.ca.1.2.2
  go_wp2_with fail
  refine (HX.out _).mono ?_
  rintro e w3 ⟨rfl, z⟩
  have I4 := hid ((I3.out.next z).putA A)
  have IX := hid (I3.out.next z)
  clear I3 z q1 q2 w2
  have r0 := IX.out.ca.1.1
  have r1 := IX.out.ca.1.2.1
  have r2 := IX.out.ca.1.2.2
  have r3 := IX.out.ca.2.1
  have r4 := IX.out.ca.2.2
  have q1 := I4.out.cb.1.2.1
  have q2 := I4.out.cb.1.2.2
  go_wp2_with fail
  clear IX r0 r1 r2 r3 r4 q1 q2
  generalize (w3.setCell ⟨w.heap.size, 0, none⟩ (.int .u64 (ub A.1))).setCell ⟨w.heap.size, 1, none⟩ (.int .u64 (ub A.2)) = w3' at *
  refine (HY.out _).mono ?_
  rintro e w4 ⟨rfl, z⟩
  have I5 := hid ((I4.out.next z).putB B)
  have IX := hid (I4.out.next z)
  clear I4 z w3'
  have r0 := IX.out.cb.1.1
  have r1 := IX.out.cb.1.2.1
  have r2 := IX.out.cb.1.2.2
  have r3 := IX.out.cb.2.1
  have r4 := IX.out.cb.2.2
  go_wp2_with fail
  clear IX r0 r1 r2 r3 r4
  generalize (w4.setCell ⟨w.heap.size + 1, 0, none⟩ (.int .u64 (ub B.1))).setCell ⟨w.heap.size + 1, 1, none⟩ (.int .u64 (ub B.2)) = w2 at *
  have I3 := I5
  clear I5
  refine (HT.out _).mono ?_
  rintro e w_ ⟨rfl, hw_⟩
  subst w_
  have I6 := hid (I3.out.next ((Below.refl _ _).alloc (Nat.le_refl _) (.cells #[.int .u64 0, .int .u64 (ub T)] 24)))
  have N1 : TC (w2.alloc (.cells #[.int .u64 0, .int .u64 (ub T)] 24)) w2.heap.size (0#64, T) := TC.new (a := (0#64, T)) rfl
  have NF := hid N1
  clear I3 N1
  have p1 := I6.out.ca.1.2.1
  have p2 := I6.out.ca.1.2.2
  have p3 := I6.out.cb.1.2.1
  have p4 := I6.out.cb.1.2.2
  go_wp2_with fail
  refine (HP'.out _).mono ?_
  rintro e w_ ⟨rfl, hw_⟩
  subst w_
  have s0 := I6.out.res.1.1
  have s1 := I6.out.res.1.2.1
  have s2 := I6.out.res.1.2.2
  have f1 := I6.out.res.2.1
  have f2 := I6.out.res.2.2
  have n1 := NF.out.2.1
  have n2 := NF.out.2.2
  cases q
  · go_wp2_with fail
    have hR' := hR.out.trans (if_neg (by decide))
    clear hR
    subst hR'
    exact bodyPost_ret (v := .tuple #[.agg #[.int .u64 (ub (A.1 * B.1)), .int .u64 (ub (A.2 * B.2))], .int .i64 0]) (by simp [results, Try.results6, go_sem, s0, s1, s2, f1, f2]; try rfl) rfl ⟨rfl, (I6.out.bel.setCell (by simp; try omega) _).setCell (by simp; try omega) _⟩
  · go_wp2_with fail
    have hR2 := hR.out.trans (if_pos trivial)
    clear hR
    subst hR2
    exact bodyPost_ret (v := .tuple #[.agg #[.int .u64 (ub 0#64), .int .u64 (ub T)], .int .i64 0]) (by simp [results, Try.results6, go_sem, s0, s1, s2, f1, f2, n1, n2]; try rfl) rfl ⟨rfl, (I6.out.bel.setCell (by simp; try omega) _).setCell (by simp; try omega) _⟩

set_option maxHeartbeats 16000000 in
theorem qAlu_3_true (a b : Tn) (w : World) (ha : mayS a = true) (hb : mayS b = true) :
    Calls Try.prog 6 #[.int .i64 3, .bool true, tv a, tv b] w fun e w' => e = .returned (.tuple #[tv (resS 3 true (cutK a (sizeW true)) (cutK b (sizeW true))), .int .i64 0]) ∧ Below w.heap.size w w' := by
  have lA : a.1.toNat ≤ a.2.toNat := by unfold mayS at ha; simpa using ha
  have lB : b.1.toNat ≤ b.2.toNat := by unfold mayS at hb; simpa using hb
  have mA : a.2.toNat < modW true := a.2.isLt
  have mB : b.2.toNat < modW true := b.2.isLt
  have HA := fun W => qMay_any a W
  have HC := fun W => qMay_any b W
  rw [ha] at HA
  rw [hb] at HC
  rw [show sizeW true = 64 from rfl, cut_all a ha, cut_all b hb]
  clear ha hb
  have HT := fun W => qTop_any 64 W (by decide)
  rw [show (1#64 <<< 64 - 1#64 : B64) = topW true by decide] at HT
  rw [show resS 3 true a b = quotS a b from rfl, ← quot_doc a b lB]
  obtain ⟨R, hR⟩ : ∃ R : Tn, R = docQuot a b := ⟨_, rfl⟩
  rw [← hR]
  unfold docQuot at hR
  replace hR := hid hR
  have I0 : AI w a b (((w.alloc (.cells #[.int .u64 (ub a.1), .int .u64 (ub a.2)] 24)).alloc (.cells #[.int .u64 (ub b.1), .int .u64 (ub b.2)] 24)).alloc (.cells #[.int .u64 0, .int .u64 0] 24)) := by
    refine ⟨((TB.new rfl).below ((Below.refl _ _).alloc (Nat.le_refl _) _)).below ((Below.refl _ _).alloc (Nat.le_refl _) _), (TB.new (by simp)).below ((Below.refl _ _).alloc (Nat.le_refl _) _), TB.new (a := t0) (by simp), (((Below.refl _ _).alloc (Nat.le_refl _) _).alloc (by simp) _).alloc (by simp; omega) _⟩
  have I1 := hid I0
  clear I0
  generalize topW true = T at *
  replace HT := hid HT
  replace HA := hid HA
  replace HC := hid HC
  unfold tv at *
  go_enter Try.func6, Try.ntmps6
  go_wp2_with fail
  refine (HA.out _).mono ?_
  rintro e w1 ⟨rfl, z⟩
  have I2 := hid (I1.out.next z)
  clear I1 z
  have q1 := I2.out.cb.1.2.1
  have q2 := I2.out.cb.1.2.2
  go_wp2_with fail
  refine (HC.out _).mono ?_
  rintro e w2 ⟨rfl, z⟩
  have I3 := hid (I2.out.next z)
  clear I2 z q1 q2 w1
  go_wp2_with fail
  refine (HT.out _).mono ?_
  rintro e w_ ⟨rfl, hw_⟩
  subst w_
  have I6 := hid (I3.out.next ((Below.refl _ _).alloc (Nat.le_refl _) (.cells #[.int .u64 0, .int .u64 (ub T)] 24)))
  have N1 : TC (w2.alloc (.cells #[.int .u64 0, .int .u64 (ub T)] 24)) w2.heap.size (0#64, T) := TC.new (a := (0#64, T)) rfl
  have NF := hid N1
  clear I3 N1
  have p1 := I6.out.ca.1.2.1
  have p2 := I6.out.ca.1.2.2
  have p3 := I6.out.cb.1.2.1
  have p4 := I6.out.cb.1.2.2
  have s0 := I6.out.res.1.1
  have s1 := I6.out.res.1.2.1
  have s2 := I6.out.res.1.2.2
  have f1 := I6.out.res.2.1
  have f2 := I6.out.res.2.2
  have bn : w.heap.size + 1 + 1 < w2.heap.size + 1 := by have := I6.out.res.1.1; simpa using this
  have bn0 : w.heap.size < w2.heap.size + 1 := by omega
  have bn1 : w.heap.size + 1 < w2.heap.size + 1 := by omega
  by_cases h1 : b.1 = 0#64
  · rw [if_pos h1, if_pos h1] at hR
    have g1 : ¬ 0 < ub b.1 := by rw [ub_pos]; exact fun k => k h1
    by_cases h2 : b.2 = 0#64
    · rw [if_pos h2] at hR
      obtain rfl := hR.out
      have g2 : ¬ 0 < ub b.2 := by rw [ub_pos]; exact fun k => k h2
      clear h1 h2
      go_wp2_with fail
      exact bodyPost_ret (v := .tuple #[.agg #[.int .u64 (ub 0#64), .int .u64 (ub 0#64)], .int .i64 0]) (by simp [results, Try.results6, go_sem, s0, s1, s2, f1, f2, bn]; try rfl) rfl ⟨rfl, ((I6.out.bel.setCell (by simp; try omega) _).setCell (by simp; try omega) _).alloc (by have := I6.out.bel.size; simp at this ⊢; omega) _⟩
    · rw [if_neg h2] at hR
      obtain rfl := hR.out
      have g2 : 0 < ub b.2 := by rw [ub_pos]; exact h2
      clear h1 h2
      go_wp2_with fail
      exact bodyPost_ret (v := .tuple #[.agg #[.int .u64 (ub 0#64), .int .u64 (ub a.2)], .int .i64 0]) (by simp [results, Try.results6, go_sem, s0, s1, s2, f1, f2, bn]; try rfl) rfl ⟨rfl, ((I6.out.bel.setCell (by simp; try omega) _).setCell (by simp; try omega) _).alloc (by have := I6.out.bel.size; simp at this ⊢; omega) _⟩
  · rw [if_neg h1, if_neg h1] at hR
    obtain rfl := hR.out
    have g1 : 0 < ub b.1 := by rw [ub_pos]; exact h1
    have n1 := ub_ne0 h1
    have h2 : ¬ b.2 = 0#64 := by intro h; rw [h] at lB; rw [toNat_zero_iff] at h1; have : (0#64 : B64).toNat = 0 := rfl; omega
    have g2 : 0 < ub b.2 := by rw [ub_pos]; exact h2
    have n2 := ub_ne0 h2
    clear h1 h2
    go_wp2_with fail
    exact bodyPost_ret (v := .tuple #[.agg #[.int .u64 (ub (a.1 / b.2)), .int .u64 (ub (a.2 / b.1))], .int .i64 0]) (by simp [results, Try.results6, go_sem, s0, s1, s2, f1, f2, bn]; try rfl) rfl ⟨rfl, ((I6.out.bel.setCell (by simp; try omega) _).setCell (by simp; try omega) _).alloc (by have := I6.out.bel.size; simp at this ⊢; omega) _⟩

set_option maxHeartbeats 16000000 in
theorem qAlu_3_false (a b : Tn) (w : World) (ha : mayS a = true) (hb : mayS b = true) :
    Calls Try.prog 6 #[.int .i64 3, .bool false, tv a, tv b] w fun e w' => e = .returned (.tuple #[tv (resS 3 false (cutK a (sizeW false)) (cutK b (sizeW false))), .int .i64 0]) ∧ Below w.heap.size w w' := by
  have HA := fun W => qMay_any a W
  have HC := fun W => qMay_any b W
  rw [ha] at HA
  rw [hb] at HC
  have HX := fun W => qCut_any a 32 W
  have HY := fun W => qCut_any b 32 W
  rw [show clampN 32 = 32 from rfl] at HX HY
  rw [show sizeW false = 32 from rfl]
  obtain ⟨-, lA, mA⟩ := cut_nar a ha
  obtain ⟨-, lB, mB⟩ := cut_nar b hb
  generalize cutK a 32 = A at *
  generalize cutK b 32 = B at *
  replace HX := hid HX
  replace HY := hid HY
  clear ha hb
  have HT := fun W => qTop_any 32 W (by decide)
  rw [show (1#64 <<< 32 - 1#64 : B64) = topW false by decide] at HT
  rw [show resS 3 false A B = quotS A B from rfl, ← quot_doc A B lB]
  obtain ⟨R, hR⟩ : ∃ R : Tn, R = docQuot A B := ⟨_, rfl⟩
  rw [← hR]
  unfold docQuot at hR
  replace hR := hid hR
  have I0 : AI w a b (((w.alloc (.cells #[.int .u64 (ub a.1), .int .u64 (ub a.2)] 24)).alloc (.cells #[.int .u64 (ub b.1), .int .u64 (ub b.2)] 24)).alloc (.cells #[.int .u64 0, .int .u64 0] 24)) := by
    refine ⟨((TB.new rfl).below ((Below.refl _ _).alloc (Nat.le_refl _) _)).below ((Below.refl _ _).alloc (Nat.le_refl _) _), (TB.new (by simp)).below ((Below.refl _ _).alloc (Nat.le_refl _) _), TB.new (a := t0) (by simp), (((Below.refl _ _).alloc (Nat.le_refl _) _).alloc (by simp) _).alloc (by simp; omega) _⟩
  have I1 := hid I0
  clear I0
  generalize topW false = T at *
  replace HT := hid HT
  replace HA := hid HA
  replace HC := hid HC
  unfold tv at *
  go_enter Try.func6, Try.ntmps6
  go_wp2_with fail
  refine (HA.out _).mono ?_
  rintro e w1 ⟨rfl, z⟩
  have I2 := hid (I1.out.next z)
  clear I1 z
  have q1 := I2.out.cb.1.2.1
  have q2 := I2.out.cb.1.2.2
  go_wp2_with fail
  refine (HC.out _).mono ?_
  rintro e w2 ⟨rfl, z⟩
  have I3 := hid (I2.out.next z)
  clear I2 z q1 q2 w1
  have q1 := I3.out.ca.1.2.1
  have q2 := I3.out.ca.1.2.2
  go_wp2_with fail
  refine (HX.out _).mono ?_
  rintro e w3 ⟨rfl, z⟩
  have I4 := hid ((I3.out.next z).putA A)
  have IX := hid (I3.out.next z)
  clear I3 z q1 q2 w2
  have r0 := IX.out.ca.1.1
  have r1 := IX.out.ca.1.2.1
  have r2 := IX.out.ca.1.2.2
  have r3 := IX.out.ca.2.1
  have r4 := IX.out.ca.2.2
  have q1 := I4.out.cb.1.2.1
  have q2 := I4.out.cb.1.2.2
  go_wp2_with fail
  clear IX r0 r1 r2 r3 r4 q1 q2
  generalize (w3.setCell ⟨w.heap.size, 0, none⟩ (.int .u64 (ub A.1))).setCell ⟨w.heap.size, 1, none⟩ (.int .u64 (ub A.2)) = w3' at *
  refine (HY.out _).mono ?_
  rintro e w4 ⟨rfl, z⟩
  have I5 := hid ((I4.out.next z).putB B)
  have IX := hid (I4.out.next z)
  clear I4 z w3'
  have r0 := IX.out.cb.1.1
  have r1 := IX.out.cb.1.2.1
  have r2 := IX.out.cb.1.2.2
  have r3 := IX.out.cb.2.1
  have r4 := IX.out.cb.2.2
  go_wp2_with fail
  clear IX r0 r1 r2 r3 r4
  generalize (w4.setCell ⟨w.heap.size + 1, 0, none⟩ (.int .u64 (ub B.1))).setCell ⟨w.heap.size + 1, 1, none⟩ (.int .u64 (ub B.2)) = w2 at *
  have I3 := I5
  clear I5
  refine (HT.out _).mono ?_
  rintro e w_ ⟨rfl, hw_⟩
  subst w_
  have I6 := hid (I3.out.next ((Below.refl _ _).alloc (Nat.le_refl _) (.cells #[.int .u64 0, .int .u64 (ub T)] 24)))
  have N1 : TC (w2.alloc (.cells #[.int .u64 0, .int .u64 (ub T)] 24)) w2.heap.size (0#64, T) := TC.new (a := (0#64, T)) rfl
  have NF := hid N1
  clear I3 N1
  have p1 := I6.out.ca.1.2.1
  have p2 := I6.out.ca.1.2.2
  have p3 := I6.out.cb.1.2.1
  have p4 := I6.out.cb.1.2.2
  have s0 := I6.out.res.1.1
  have s1 := I6.out.res.1.2.1
  have s2 := I6.out.res.1.2.2
  have f1 := I6.out.res.2.1
  have f2 := I6.out.res.2.2
  have bn : w.heap.size + 1 + 1 < w2.heap.size + 1 := by have := I6.out.res.1.1; simpa using this
  have bn0 : w.heap.size < w2.heap.size + 1 := by omega
  have bn1 : w.heap.size + 1 < w2.heap.size + 1 := by omega
  by_cases h1 : B.1 = 0#64
  · rw [if_pos h1, if_pos h1] at hR
    have g1 : ¬ 0 < ub B.1 := by rw [ub_pos]; exact fun k => k h1
    by_cases h2 : B.2 = 0#64
    · rw [if_pos h2] at hR
      obtain rfl := hR.out
      have g2 : ¬ 0 < ub B.2 := by rw [ub_pos]; exact fun k => k h2
      clear h1 h2
      go_wp2_with fail
      exact bodyPost_ret (v := .tuple #[.agg #[.int .u64 (ub 0#64), .int .u64 (ub 0#64)], .int .i64 0]) (by simp [results, Try.results6, go_sem, s0, s1, s2, f1, f2, bn]; try rfl) rfl ⟨rfl, ((I6.out.bel.setCell (by simp; try omega) _).setCell (by simp; try omega) _).alloc (by have := I6.out.bel.size; simp at this ⊢; omega) _⟩
    · rw [if_neg h2] at hR
      obtain rfl := hR.out
      have g2 : 0 < ub B.2 := by rw [ub_pos]; exact h2
      clear h1 h2
      go_wp2_with fail
      exact bodyPost_ret (v := .tuple #[.agg #[.int .u64 (ub 0#64), .int .u64 (ub A.2)], .int .i64 0]) (by simp [results, Try.results6, go_sem, s0, s1, s2, f1, f2, bn]; try rfl) rfl ⟨rfl, ((I6.out.bel.setCell (by simp; try omega) _).setCell (by simp; try omega) _).alloc (by have := I6.out.bel.size; simp at this ⊢; omega) _⟩
  · rw [if_neg h1, if_neg h1] at hR
    obtain rfl := hR.out
    have g1 : 0 < ub B.1 := by rw [ub_pos]; exact h1
    have n1 := ub_ne0 h1
    have h2 : ¬ B.2 = 0#64 := by intro h; rw [h] at lB; rw [toNat_zero_iff] at h1; have : (0#64 : B64).toNat = 0 := rfl; omega
    have g2 : 0 < ub B.2 := by rw [ub_pos]; exact h2
    have n2 := ub_ne0 h2
    clear h1 h2
    go_wp2_with fail
    exact bodyPost_ret (v := .tuple #[.agg #[.int .u64 (ub (A.1 / B.2)), .int .u64 (ub (A.2 / B.1))], .int .i64 0]) (by simp [results, Try.results6, go_sem, s0, s1, s2, f1, f2, bn]; try rfl) rfl ⟨rfl, ((I6.out.bel.setCell (by simp; try omega) _).setCell (by simp; try omega) _).alloc (by have := I6.out.bel.size; simp at this ⊢; omega) _⟩

end Go.Proofs.Ytjcnpjidkimldaa
