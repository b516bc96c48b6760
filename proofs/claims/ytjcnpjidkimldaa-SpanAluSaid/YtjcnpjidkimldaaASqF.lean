/-
  Contract of the document's Alu, operation by operation.
-/
import Derived.Test.YtjcnpjidkimldaaASqD
import Derived.Test.YtjcnpjidkimldaaASpV
import Derived.Test.YtjcnpjidkimldaaASpAb
import Derived.Test.YtjcnpjidkimldaaASpAc
namespace Go.Proofs.Ytjcnpjidkimldaa
set_option linter.unusedSimpArgs false
set_option linter.unusedVariables false
set_option maxRecDepth 100000
set_option maxRecDepth 100000
open Go.ChangeShapes Go.WideShapes Go.ChangeAt Go.RowKit Sq

namespace Sq
/-- What lies where in the course of Alu. -/
structure AI (w : World) (A B : Tn) (wr : World) : Prop where
  ca : TB wr w.heap.size A
  cb : TB wr (w.heap.size + 1) B
  res : TB wr (w.heap.size + 1 + 1) t0
  bel : Below w.heap.size w wr
theorem AI.next {w : World} {A B : Tn} {wr w' : World} (h : AI w A B wr) (hb : Below wr.heap.size wr w') : AI w A B w' :=
  ⟨h.ca.below hb, h.cb.below hb, h.res.below hb, h.bel.trans (hb.mono h.bel.size)⟩
theorem AI.putA {w : World} {A B : Tn} {wr : World} (h : AI w A B wr) (u : Tn) : AI w u B ((wr.setCell ⟨w.heap.size, 0, none⟩ (.int .u64 (ub u.1))).setCell ⟨w.heap.size, 1, none⟩ (.int .u64 (ub u.2))) :=
  ⟨h.ca.put u, h.cb.other (by omega) _ _, h.res.other (by omega) _ _, (h.bel.setCell (by simp) _).setCell (by simp) _⟩
theorem AI.putB {w : World} {A B : Tn} {wr : World} (h : AI w A B wr) (u : Tn) : AI w A u ((wr.setCell ⟨w.heap.size + 1, 0, none⟩ (.int .u64 (ub u.1))).setCell ⟨w.heap.size + 1, 1, none⟩ (.int .u64 (ub u.2))) :=
  ⟨h.ca.other (by omega) _ _, h.cb.put u, h.res.other (by omega) _ _, (h.bel.setCell (by simp) _).setCell (by simp) _⟩
theorem cut_nar (s : Tn) (h : mayS s = true) : mayS (cutK s 32) = true ∧ (cutK s 32).1.toNat ≤ (cutK s 32).2.toNat ∧ (cutK s 32).2.toNat < modW false := by
  have h1 := cut_ok s 32 (by decide) (by unfold mayS at h; simpa using h)
  have : modW false = 2 ^ 32 := rfl
  rw [this]
  exact ⟨by unfold mayS; exact decide_eq_true h1.1, h1.1, h1.2.1⟩
end Sq

set_option maxHeartbeats 16000000 in
theorem qAlu_11_true (a b : Tn) (w : World) (ha : mayS a = true) (hb : mayS b = true) :
    Calls Try.prog 6 #[.int .i64 11, .bool true, tv a, tv b] w fun e w' => e = .returned (.tuple #[tv (resS 11 true (cutK a (sizeW true)) (cutK b (sizeW true))), .int .i64 0]) ∧ Below w.heap.size w w' := by
  have lA : a.1.toNat ≤ a.2.toNat := by unfold mayS at ha; simpa using ha
  have lB : b.1.toNat ≤ b.2.toNat := by unfold mayS at hb; simpa using hb
  have mA : a.2.toNat < modW true := a.2.isLt
  have mB : b.2.toNat < modW true := b.2.isLt
  have HA := fun W => qMay_any a W
  have HC := fun W => qMay_any b W
  rw [ha] at HA
  rw [hb] at HC
  rw [show sizeW true = 64 from rfl, cut_all a ha, cut_all b hb]
  clear ha hb
  have HT := fun W => qTop_any 64 W (by decide)
  rw [show (1#64 <<< 64 - 1#64 : B64) = topW true by decide] at HT
  rw [show resS 11 true a b = b from rfl]
  have I0 : AI w a b (((w.alloc (.cells #[.int .u64 (ub a.1), .int .u64 (ub a.2)] 24)).alloc (.cells #[.int .u64 (ub b.1), .int .u64 (ub b.2)] 24)).alloc (.cells #[.int .u64 0, .int .u64 0] 24)) := by
    refine ⟨((TB.new rfl).below ((Below.refl _ _).alloc (Nat.le_refl _) _)).below ((Below.refl _ _).alloc (Nat.le_refl _) _), (TB.new (by simp)).below ((Below.refl _ _).alloc (Nat.le_refl _) _), TB.new (a := t0) (by simp), (((Below.refl _ _).alloc (Nat.le_refl _) _).alloc (by simp) _).alloc (by simp; omega) _⟩
  have I1 := hid I0
  clear I0
  generalize topW true = T at *
  replace HT := hid HT
  replace HA := hid HA
  replace HC := hid HC
  unfold tv at *
  go_enter Try.func6, Try.ntmps6
  go_wp2_with fail
  refine (HA.out _).mono ?_
  rintro e w1 ⟨rfl, z⟩
  have I2 := hid (I1.out.next z)
  clear I1 z
  have q1 := I2.out.cb.1.2.1
  have q2 := I2.out.cb.1.2.2
  go_wp2_with fail
  refine (HC.out _).mono ?_
  rintro e w2 ⟨rfl, z⟩
  have I3 := hid (I2.out.next z)
  clear I2 z q1 q2 w1
  go_wp2_with fail
  refine (HT.out _).mono ?_
  rintro e w_ ⟨rfl, hw_⟩
  subst w_
  have I6 := hid (I3.out.next ((Below.refl _ _).alloc (Nat.le_refl _) (.cells #[.int .u64 0, .int .u64 (ub T)] 24)))
  have N1 : TC (w2.alloc (.cells #[.int .u64 0, .int .u64 (ub T)] 24)) w2.heap.size (0#64, T) := TC.new (a := (0#64, T)) rfl
  have NF := hid N1
  clear I3 N1
  have p1 := I6.out.ca.1.2.1
  have p2 := I6.out.ca.1.2.2
  have p3 := I6.out.cb.1.2.1
  have p4 := I6.out.cb.1.2.2
  have s0 := I6.out.res.1.1
  have s1 := I6.out.res.1.2.1
  have s2 := I6.out.res.1.2.2
  have f1 := I6.out.res.2.1
  have f2 := I6.out.res.2.2
  go_wp2_with fail
  exact bodyPost_ret (v := .tuple #[.agg #[.int .u64 (ub b.1), .int .u64 (ub b.2)], .int .i64 0]) (by simp [results, Try.results6, go_sem, s0, s1, s2, f1, f2]; try rfl) rfl ⟨rfl, (I6.out.bel.setCell (by simp; try omega) _).setCell (by simp; try omega) _⟩

set_option maxHeartbeats 16000000 in
theorem qAlu_11_false (a b : Tn) (w : World) (ha : mayS a = true) (hb : mayS b = true) :
    Calls Try.prog 6 #[.int .i64 11, .bool false, tv a, tv b] w fun e w' => e = .returned (.tuple #[tv (resS 11 false (cutK a (sizeW false)) (cutK b (sizeW false))), .int .i64 0]) ∧ Below w.heap.size w w' := by
  have HA := fun W => qMay_any a W
  have HC := fun W => qMay_any b W
  rw [ha] at HA
  rw [hb] at HC
  have HX := fun W => qCut_any a 32 W
  have HY := fun W => qCut_any b 32 W
  rw [show clampN 32 = 32 from rfl] at HX HY
  rw [show sizeW false = 32 from rfl]
  obtain ⟨-, lA, mA⟩ := cut_nar a ha
  obtain ⟨-, lB, mB⟩ := cut_nar b hb
  generalize cutK a 32 = A at *
  generalize cutK b 32 = B at *
  replace HX := hid HX
  replace HY := hid HY
  clear ha hb
  have HT := fun W => qTop_any 32 W (by decide)
  rw [show (1#64 <<< 32 - 1#64 : B64) = topW false by decide] at HT
  rw [show resS 11 false A B = B from rfl]
  have I0 : AI w a b (((w.alloc (.cells #[.int .u64 (ub a.1), .int .u64 (ub a.2)] 24)).alloc (.cells #[.int .u64 (ub b.1), .int .u64 (ub b.2)] 24)).alloc (.cells #[.int .u64 0, .int .u64 0] 24)) := by
    refine ⟨((TB.new rfl).below ((Below.refl _ _).alloc (Nat.le_refl _) _)).below ((Below.refl _ _).alloc (Nat.le_refl _) _), (TB.new (by simp)).below ((Below.refl _ _).alloc (Nat.le_refl _) _), TB.new (a := t0) (by simp), (((Below.refl _ _).alloc (Nat.le_refl _) _).alloc (by simp) _).alloc (by simp; omega) _⟩
  have I1 := hid I0
  clear I0
  generalize topW false = T at *
  replace HT := hid HT
  replace HA := hid HA
  replace HC := hid HC
  unfold tv at *
  go_enter Try.func6, Try.ntmps6
  go_wp2_with fail
  refine (HA.out _).mono ?_
  rintro e w1 ⟨rfl, z⟩
  have I2 := hid (I1.out.next z)
  clear I1 z
  have q1 := I2.out.cb.1.2.1
  have q2 := I2.out.cb.1.2.2
  go_wp2_with fail
  refine (HC.out _).mono ?_
  rintro e w2 ⟨rfl, z⟩
  have I3 := hid (I2.out.next z)
  clear I2 z q1 q2 w1
  have q1 := I3.out.ca.1.2.1
  have q2 := I3.out.ca.1.2.2
  go_wp2_with fail
  refine (HX.out _).mono ?_
  rintro e w3 ⟨rfl, z⟩
  have I4 := hid ((I3.out.next z).putA A)
  have IX := hid (I3.out.next z)
  clear I3 z q1 q2 w2
  have r0 := IX.out.ca.1.1
  have r1 := IX.out.ca.1.2.1
  have r2 := IX.out.ca.1.2.2
  have r3 := IX.out.ca.2.1
  have r4 := IX.out.ca.2.2
  have q1 := I4.out.cb.1.2.1
  have q2 := I4.out.cb.1.2.2
  go_wp2_with fail
  clear IX r0 r1 r2 r3 r4 q1 q2
  generalize (w3.setCell ⟨w.heap.size, 0, none⟩ (.int .u64 (ub A.1))).setCell ⟨w.heap.size, 1, none⟩ (.int .u64 (ub A.2)) = w3' at *
  refine (HY.out _).mono ?_
  rintro e w4 ⟨rfl, z⟩
  have I5 := hid ((I4.out.next z).putB B)
  have IX := hid (I4.out.next z)
  clear I4 z w3'
  have r0 := IX.out.cb.1.1
  have r1 := IX.out.cb.1.2.1
  have r2 := IX.out.cb.1.2.2
  have r3 := IX.out.cb.2.1
  have r4 := IX.out.cb.2.2
  go_wp2_with fail
  clear IX r0 r1 r2 r3 r4
  generalize (w4.setCell ⟨w.heap.size + 1, 0, none⟩ (.int .u64 (ub B.1))).setCell ⟨w.heap.size + 1, 1, none⟩ (.int .u64 (ub B.2)) = w2 at *
  have I3 := I5
  clear I5
  refine (HT.out _).mono ?_
  rintro e w_ ⟨rfl, hw_⟩
  subst w_
  have I6 := hid (I3.out.next ((Below.refl _ _).alloc (Nat.le_refl _) (.cells #[.int .u64 0, .int .u64 (ub T)] 24)))
  have N1 : TC (w2.alloc (.cells #[.int .u64 0, .int .u64 (ub T)] 24)) w2.heap.size (0#64, T) := TC.new (a := (0#64, T)) rfl
  have NF := hid N1
  clear I3 N1
  have p1 := I6.out.ca.1.2.1
  have p2 := I6.out.ca.1.2.2
  have p3 := I6.out.cb.1.2.1
  have p4 := I6.out.cb.1.2.2
  have s0 := I6.out.res.1.1
  have s1 := I6.out.res.1.2.1
  have s2 := I6.out.res.1.2.2
  have f1 := I6.out.res.2.1
  have f2 := I6.out.res.2.2
  go_wp2_with fail
  exact bodyPost_ret (v := .tuple #[.agg #[.int .u64 (ub B.1), .int .u64 (ub B.2)], .int .i64 0]) (by simp [results, Try.results6, go_sem, s0, s1, s2, f1, f2]; try rfl) rfl ⟨rfl, (I6.out.bel.setCell (by simp; try omega) _).setCell (by simp; try omega) _⟩

set_option maxHeartbeats 16000000 in
theorem qAlu_1_true (a b : Tn) (w : World) (ha : mayS a = true) (hb : mayS b = true) :
    Calls Try.prog 6 #[.int .i64 1, .bool true, tv a, tv b] w fun e w' => e = .returned (.tuple #[tv (resS 1 true (cutK a (sizeW true)) (cutK b (sizeW true))), .int .i64 0]) ∧ Below w.heap.size w w' := by
  have lA : a.1.toNat ≤ a.2.toNat := by unfold mayS at ha; simpa using ha
  have lB : b.1.toNat ≤ b.2.toNat := by unfold mayS at hb; simpa using hb
  have mA : a.2.toNat < modW true := a.2.isLt
  have mB : b.2.toNat < modW true := b.2.isLt
  have HA := fun W => qMay_any a W
  have HC := fun W => qMay_any b W
  rw [ha] at HA
  rw [hb] at HC
  rw [show sizeW true = 64 from rfl, cut_all a ha, cut_all b hb]
  clear ha hb
  have HT := fun W => qTop_any 64 W (by decide)
  rw [show (1#64 <<< 64 - 1#64 : B64) = topW true by decide] at HT
  rw [show resS 1 true a b = sumS true a (negS b) from rfl, ← apart_is true a b lA lB mA mB]
  have HP := hid fun (T : B64) W => qApart_any a b T W
  obtain ⟨R, hR⟩ : ∃ R, R = apartS a b (topW true) := ⟨_, rfl⟩
  have HP' := HP.out (topW true)
  rw [← hR] at HP' ⊢
  clear HP hR
  replace HP' := hid HP'
  have I0 : AI w a b (((w.alloc (.cells #[.int .u64 (ub a.1), .int .u64 (ub a.2)] 24)).alloc (.cells #[.int .u64 (ub b.1), .int .u64 (ub b.2)] 24)).alloc (.cells #[.int .u64 0, .int .u64 0] 24)) := by
    refine ⟨((TB.new rfl).below ((Below.refl _ _).alloc (Nat.le_refl _) _)).below ((Below.refl _ _).alloc (Nat.le_refl _) _), (TB.new (by simp)).below ((Below.refl _ _).alloc (Nat.le_refl _) _), TB.new (a := t0) (by simp), (((Below.refl _ _).alloc (Nat.le_refl _) _).alloc (by simp) _).alloc (by simp; omega) _⟩
  have I1 := hid I0
  clear I0
  generalize topW true = T at *
  replace HT := hid HT
  replace HA := hid HA
  replace HC := hid HC
  unfold tv at *
  go_enter Try.func6, Try.ntmps6
  go_wp2_with fail
  refine (HA.out _).mono ?_
  rintro e w1 ⟨rfl, z⟩
  have I2 := hid (I1.out.next z)
  clear I1 z
  have q1 := I2.out.cb.1.2.1
  have q2 := I2.out.cb.1.2.2
  go_wp2_with fail
  refine (HC.out _).mono ?_
  rintro e w2 ⟨rfl, z⟩
  have I3 := hid (I2.out.next z)
  clear I2 z q1 q2 w1
  go_wp2_with fail
  refine (HT.out _).mono ?_
  rintro e w_ ⟨rfl, hw_⟩
  subst w_
  have I6 := hid (I3.out.next ((Below.refl _ _).alloc (Nat.le_refl _) (.cells #[.int .u64 0, .int .u64 (ub T)] 24)))
  have N1 : TC (w2.alloc (.cells #[.int .u64 0, .int .u64 (ub T)] 24)) w2.heap.size (0#64, T) := TC.new (a := (0#64, T)) rfl
  have NF := hid N1
  clear I3 N1
  have p1 := I6.out.ca.1.2.1
  have p2 := I6.out.ca.1.2.2
  have p3 := I6.out.cb.1.2.1
  have p4 := I6.out.cb.1.2.2
  go_wp2_with fail
  refine (HP'.out _).mono ?_
  rintro e w5 ⟨rfl, z⟩
  have I7 := hid (I6.out.next z)
  clear I6 z p1 p2 p3 p4
  have I6 := I7
  clear I7
  have s0 := I6.out.res.1.1
  have s1 := I6.out.res.1.2.1
  have s2 := I6.out.res.1.2.2
  have f1 := I6.out.res.2.1
  have f2 := I6.out.res.2.2
  go_wp2_with fail
  exact bodyPost_ret (v := .tuple #[.agg #[.int .u64 (ub R.1), .int .u64 (ub R.2)], .int .i64 0]) (by simp [results, Try.results6, go_sem, s0, s1, s2, f1, f2]; try rfl) rfl ⟨rfl, (I6.out.bel.setCell (by simp; try omega) _).setCell (by simp; try omega) _⟩

set_option maxHeartbeats 16000000 in
theorem qAlu_1_false (a b : Tn) (w : World) (ha : mayS a = true) (hb : mayS b = true) :
    Calls Try.prog 6 #[.int .i64 1, .bool false, tv a, tv b] w fun e w' => e = .returned (.tuple #[tv (resS 1 false (cutK a (sizeW false)) (cutK b (sizeW false))), .int .i64 0]) ∧ Below w.heap.size w w' := by
  have HA := fun W => qMay_any a W
  have HC := fun W => qMay_any b W
  rw [ha] at HA
  rw [hb] at HC
  have HX := fun W => qCut_any a 32 W
  have HY := fun W => qCut_any b 32 W
  rw [show clampN 32 = 32 from rfl] at HX HY
  rw [show sizeW false = 32 from rfl]
  obtain ⟨-, lA, mA⟩ := cut_nar a ha
  obtain ⟨-, lB, mB⟩ := cut_nar b hb
  generalize cutK a 32 = A at *
  generalize cutK b 32 = B at *
  replace HX := hid HX
  replace HY := hid HY
  clear ha hb
  have HT := fun W => qTop_any 32 W (by decide)
  rw [show (1#64 <<< 32 - 1#64 : B64) = topW false by decide] at HT
  rw [show resS 1 false A B = sumS false A (negS B) from rfl, ← apart_is false A B lA lB mA mB]
  have HP := hid fun (T : B64) W => qApart_any A B T W
  obtain ⟨R, hR⟩ : ∃ R, R = apartS A B (topW false) := ⟨_, rfl⟩
  have HP' := HP.out (topW false)
  rw [← hR] at HP' ⊢
  clear HP hR
  replace HP' := hid HP'
  have I0 : AI w a b (((w.alloc (.cells #[.int .u64 (ub a.1), .int .u64 (ub a.2)] 24)).alloc (.cells #[.int .u64 (ub b.1), .int .u64 (ub b.2)] 24)).alloc (.cells #[.int .u64 0, .int .u64 0] 24)) := by
    refine ⟨((TB.new rfl).below ((Below.refl _ _).alloc (Nat.le_refl _) _)).below ((Below.refl _ _).alloc (Nat.le_refl _) _), (TB.new (by simp)).below ((Below.refl _ _).alloc (Nat.le_refl _) _), TB.new (a := t0) (by simp), (((Below.refl _ _).alloc (Nat.le_refl _) _).alloc (by simp) _).alloc (by simp; omega) _⟩
  have I1 := hid I0
  clear I0
  generalize topW false = T at *
  replace HT := hid HT
  replace HA := hid HA
  replace HC := hid HC
  unfold tv at *
  go_enter Try.func6, Try.ntmps6
  go_wp2_with fail
  refine (HA.out _).mono ?_
  rintro e w1 ⟨rfl, z⟩
  have I2 := hid (I1.out.next z)
  clear I1 z
  have q1 := I2.out.cb.1.2.1
  have q2 := I2.out.cb.1.2.2
  go_wp2_with fail
  refine (HC.out _).mono ?_
  rintro e w2 ⟨rfl, z⟩
  have I3 := hid (I2.out.next z)
  clear I2 z q1 q2 w1
  have q1 := I3.out.ca.1.2.1
  have q2 := I3.out.ca.1.2.2
  go_wp2_with fail
  refine (HX.out _).mono ?_
  rintro e w3 ⟨rfl, z⟩
  have I4 := hid ((I3.out.next z).putA A)
  have IX := hid (I3.out.next z)
  clear I3 z q1 q2 w2
  have r0 := IX.out.ca.1.1
  have r1 := IX.out.ca.1.2.1
  have r2 := IX.out.ca.1.2.2
  have r3 := IX.out.ca.2.1
  have r4 := IX.out.ca.2.2
  have q1 := I4.out.cb.1.2.1
  have q2 := I4.out.cb.1.2.2
  go_wp2_with fail
  clear IX r0 r1 r2 r3 r4 q1 q2
  generalize (w3.setCell ⟨w.heap.size, 0, none⟩ (.int .u64 (ub A.1))).setCell ⟨w.heap.size, 1, none⟩ (.int .u64 (ub A.2)) = w3' at *
  refine (HY.out _).mono ?_
  rintro e w4 ⟨rfl, z⟩
  have I5 := hid ((I4.out.next z).putB B)
  have IX := hid (I4.out.next z)
  clear I4 z w3'
  have r0 := IX.out.cb.1.1
  have r1 := IX.out.cb.1.2.1
  have r2 := IX.out.cb.1.2.2
  have r3 := IX.out.cb.2.1
  have r4 := IX.out.cb.2.2
  go_wp2_with fail
  clear IX r0 r1 r2 r3 r4
  generalize (w4.setCell ⟨w.heap.size + 1, 0, none⟩ (.int .u64 (ub B.1))).setCell ⟨w.heap.size + 1, 1, none⟩ (.int .u64 (ub B.2)) = w2 at *
  have I3 := I5
  clear I5
  refine (HT.out _).mono ?_
  rintro e w_ ⟨rfl, hw_⟩
  subst w_
  have I6 := hid (I3.out.next ((Below.refl _ _).alloc (Nat.le_refl _) (.cells #[.int .u64 0, .int .u64 (ub T)] 24)))
  have N1 : TC (w2.alloc (.cells #[.int .u64 0, .int .u64 (ub T)] 24)) w2.heap.size (0#64, T) := TC.new (a := (0#64, T)) rfl
  have NF := hid N1
  clear I3 N1
  have p1 := I6.out.ca.1.2.1
  have p2 := I6.out.ca.1.2.2
  have p3 := I6.out.cb.1.2.1
  have p4 := I6.out.cb.1.2.2
  go_wp2_with fail
  refine (HP'.out _).mono ?_
  rintro e w5 ⟨rfl, z⟩
  have I7 := hid (I6.out.next z)
  clear I6 z p1 p2 p3 p4
  have I6 := I7
  clear I7
  have s0 := I6.out.res.1.1
  have s1 := I6.out.res.1.2.1
  have s2 := I6.out.res.1.2.2
  have f1 := I6.out.res.2.1
  have f2 := I6.out.res.2.2
  go_wp2_with fail
  exact bodyPost_ret (v := .tuple #[.agg #[.int .u64 (ub R.1), .int .u64 (ub R.2)], .int .i64 0]) (by simp [results, Try.results6, go_sem, s0, s1, s2, f1, f2]; try rfl) rfl ⟨rfl, (I6.out.bel.setCell (by simp; try omega) _).setCell (by simp; try omega) _⟩

set_option maxHeartbeats 16000000 in
theorem qAlu_8_true (a b : Tn) (w : World) (ha : mayS a = true) (hb : mayS b = true) :
    Calls Try.prog 6 #[.int .i64 8, .bool true, tv a, tv b] w fun e w' => e = .returned (.tuple #[tv (resS 8 true (cutK a (sizeW true)) (cutK b (sizeW true))), .int .i64 0]) ∧ Below w.heap.size w w' := by
  have lA : a.1.toNat ≤ a.2.toNat := by unfold mayS at ha; simpa using ha
  have lB : b.1.toNat ≤ b.2.toNat := by unfold mayS at hb; simpa using hb
  have mA : a.2.toNat < modW true := a.2.isLt
  have mB : b.2.toNat < modW true := b.2.isLt
  have HA := fun W => qMay_any a W
  have HC := fun W => qMay_any b W
  rw [ha] at HA
  rw [hb] at HC
  rw [show sizeW true = 64 from rfl, cut_all a ha, cut_all b hb]
  clear ha hb
  have HT := fun W => qTop_any 64 W (by decide)
  rw [show (1#64 <<< 64 - 1#64 : B64) = topW true by decide] at HT
  rw [show resS 8 true a b = sumS true (0#64, 0#64) (negS a) from rfl, ← apart_is true (0#64, 0#64) a (Nat.le_refl _) lA (by decide) mA]
  have HP := hid fun (T : B64) W => qApart_any (0#64, 0#64) a T W
  obtain ⟨R, hR⟩ : ∃ R, R = apartS (0#64, 0#64) a (topW true) := ⟨_, rfl⟩
  have HP' := HP.out (topW true)
  rw [← hR] at HP' ⊢
  clear HP hR
  replace HP' := hid HP'
  have I0 : AI w a b (((w.alloc (.cells #[.int .u64 (ub a.1), .int .u64 (ub a.2)] 24)).alloc (.cells #[.int .u64 (ub b.1), .int .u64 (ub b.2)] 24)).alloc (.cells #[.int .u64 0, .int .u64 0] 24)) := by
    refine ⟨((TB.new rfl).below ((Below.refl _ _).alloc (Nat.le_refl _) _)).below ((Below.refl _ _).alloc (Nat.le_refl _) _), (TB.new (by simp)).below ((Below.refl _ _).alloc (Nat.le_refl _) _), TB.new (a := t0) (by simp), (((Below.refl _ _).alloc (Nat.le_refl _) _).alloc (by simp) _).alloc (by simp; omega) _⟩
  have I1 := hid I0
  clear I0
  generalize topW true = T at *
  replace HT := hid HT
  replace HA := hid HA
  replace HC := hid HC
  unfold tv at *
  go_enter Try.func6, Try.ntmps6
  go_wp2_with fail
  refine (HA.out _).mono ?_
  rintro e w1 ⟨rfl, z⟩
  have I2 := hid (I1.out.next z)
  clear I1 z
  have q1 := I2.out.cb.1.2.1
  have q2 := I2.out.cb.1.2.2
  go_wp2_with fail
  refine (HC.out _).mono ?_
  rintro e w2 ⟨rfl, z⟩
  have I3 := hid (I2.out.next z)
  clear I2 z q1 q2 w1
  go_wp2_with fail
  refine (HT.out _).mono ?_
  rintro e w_ ⟨rfl, hw_⟩
  subst w_
  have I6 := hid (I3.out.next ((Below.refl _ _).alloc (Nat.le_refl _) (.cells #[.int .u64 0, .int .u64 (ub T)] 24)))
  have N1 : TC (w2.alloc (.cells #[.int .u64 0, .int .u64 (ub T)] 24)) w2.heap.size (0#64, T) := TC.new (a := (0#64, T)) rfl
  have NF := hid N1
  clear I3 N1
  have p1 := I6.out.ca.1.2.1
  have p2 := I6.out.ca.1.2.2
  have p3 := I6.out.cb.1.2.1
  have p4 := I6.out.cb.1.2.2
  go_wp2_with fail
  refine (HP'.out _).mono ?_
  rintro e w5 ⟨rfl, z⟩
  have I7 := hid (I6.out.next z)
  clear I6 z p1 p2 p3 p4
  have I6 := I7
  clear I7
  have s0 := I6.out.res.1.1
  have s1 := I6.out.res.1.2.1
  have s2 := I6.out.res.1.2.2
  have f1 := I6.out.res.2.1
  have f2 := I6.out.res.2.2
  go_wp2_with fail
  exact bodyPost_ret (v := .tuple #[.agg #[.int .u64 (ub R.1), .int .u64 (ub R.2)], .int .i64 0]) (by simp [results, Try.results6, go_sem, s0, s1, s2, f1, f2]; try rfl) rfl ⟨rfl, (I6.out.bel.setCell (by simp; try omega) _).setCell (by simp; try omega) _⟩

set_option maxHeartbeats 16000000 in
theorem qAlu_8_false (a b : Tn) (w : World) (ha : mayS a = true) (hb : mayS b = true) :
    Calls Try.prog 6 #[.int .i64 8, .bool false, tv a, tv b] w fun e w' => e = .returned (.tuple #[tv (resS 8 false (cutK a (sizeW false)) (cutK b (sizeW false))), .int .i64 0]) ∧ Below w.heap.size w w' := by
  have HA := fun W => qMay_any a W
  have HC := fun W => qMay_any b W
  rw [ha] at HA
  rw [hb] at HC
  have HX := fun W => qCut_any a 32 W
  have HY := fun W => qCut_any b 32 W
  rw [show clampN 32 = 32 from rfl] at HX HY
  rw [show sizeW false = 32 from rfl]
  obtain ⟨-, lA, mA⟩ := cut_nar a ha
  obtain ⟨-, lB, mB⟩ := cut_nar b hb
  generalize cutK a 32 = A at *
  generalize cutK b 32 = B at *
  replace HX := hid HX
  replace HY := hid HY
  clear ha hb
  have HT := fun W => qTop_any 32 W (by decide)
  rw [show (1#64 <<< 32 - 1#64 : B64) = topW false by decide] at HT
  rw [show resS 8 false A B = sumS false (0#64, 0#64) (negS A) from rfl, ← apart_is false (0#64, 0#64) A (Nat.le_refl _) lA (by decide) mA]
  have HP := hid fun (T : B64) W => qApart_any (0#64, 0#64) A T W
  obtain ⟨R, hR⟩ : ∃ R, R = apartS (0#64, 0#64) A (topW false) := ⟨_, rfl⟩
  have HP' := HP.out (topW false)
  rw [← hR] at HP' ⊢
  clear HP hR
  replace HP' := hid HP'
  have I0 : AI w a b (((w.alloc (.cells #[.int .u64 (ub a.1), .int .u64 (ub a.2)] 24)).alloc (.cells #[.int .u64 (ub b.1), .int .u64 (ub b.2)] 24)).alloc (.cells #[.int .u64 0, .int .u64 0] 24)) := by
    refine ⟨((TB.new rfl).below ((Below.refl _ _).alloc (Nat.le_refl _) _)).below ((Below.refl _ _).alloc (Nat.le_refl _) _), (TB.new (by simp)).below ((Below.refl _ _).alloc (Nat.le_refl _) _), TB.new (a := t0) (by simp), (((Below.refl _ _).alloc (Nat.le_refl _) _).alloc (by simp) _).alloc (by simp; omega) _⟩
  have I1 := hid I0
  clear I0
  generalize topW false = T at *
  replace HT := hid HT
  replace HA := hid HA
  replace HC := hid HC
  unfold tv at *
  go_enter Try.func6, Try.ntmps6
  go_wp2_with fail
  refine (HA.out _).mono ?_
  rintro e w1 ⟨rfl, z⟩
  have I2 := hid (I1.out.next z)
  clear I1 z
  have q1 := I2.out.cb.1.2.1
  have q2 := I2.out.cb.1.2.2
  go_wp2_with fail
  refine (HC.out _).mono ?_
  rintro e w2 ⟨rfl, z⟩
  have I3 := hid (I2.out.next z)
  clear I2 z q1 q2 w1
  have q1 := I3.out.ca.1.2.1
  have q2 := I3.out.ca.1.2.2
  go_wp2_with fail
  refine (HX.out _).mono ?_
  rintro e w3 ⟨rfl, z⟩
  have I4 := hid ((I3.out.next z).putA A)
  have IX := hid (I3.out.next z)
  clear I3 z q1 q2 w2
  have r0 := IX.out.ca.1.1
  have r1 := IX.out.ca.1.2.1
  have r2 := IX.out.ca.1.2.2
  have r3 := IX.out.ca.2.1
  have r4 := IX.out.ca.2.2
  have q1 := I4.out.cb.1.2.1
  have q2 := I4.out.cb.1.2.2
  go_wp2_with fail
  clear IX r0 r1 r2 r3 r4 q1 q2
  generalize (w3.setCell ⟨w.heap.size, 0, none⟩ (.int .u64 (ub A.1))).setCell ⟨w.heap.size, 1, none⟩ (.int .u64 (ub A.2)) = w3' at *
  refine (HY.out _).mono ?_
  rintro e w4 ⟨rfl, z⟩
  have I5 := hid ((I4.out.next z).putB B)
  have IX := hid (I4.out.next z)
  clear I4 z w3'
  have r0 := IX.out.cb.1.1
  have r1 := IX.out.cb.1.2.1
  have r2 := IX.out.cb.1.2.2
  have r3 := IX.out.cb.2.1
  have r4 := IX.out.cb.2.2
  go_wp2_with fail
  clear IX r0 r1 r2 r3 r4
  generalize (w4.setCell ⟨w.heap.size + 1, 0, none⟩ (.int .u64 (ub B.1))).setCell ⟨w.heap.size + 1, 1, none⟩ (.int .u64 (ub B.2)) = w2 at *
  have I3 := I5
  clear I5
  refine (HT.out _).mono ?_
  rintro e w_ ⟨rfl, hw_⟩
  subst w_
  have I6 := hid (I3.out.next ((Below.refl _ _).alloc (Nat.le_refl _) (.cells #[.int .u64 0, .int .u64 (ub T)] 24)))
  have N1 : TC (w2.alloc (.cells #[.int .u64 0, .int .u64 (ub T)] 24)) w2.heap.size (0#64, T) := TC.new (a := (0#64, T)) rfl
  have NF := hid N1
  clear I3 N1
  have p1 := I6.out.ca.1.2.1
  have p2 := I6.out.ca.1.2.2
  have p3 := I6.out.cb.1.2.1
  have p4 := I6.out.cb.1.2.2
  go_wp2_with fail
  refine (HP'.out _).mono ?_
  rintro e w5 ⟨rfl, z⟩
  have I7 := hid (I6.out.next z)
  clear I6 z p1 p2 p3 p4
  have I6 := I7
  clear I7
  have s0 := I6.out.res.1.1
  have s1 := I6.out.res.1.2.1
  have s2 := I6.out.res.1.2.2
  have f1 := I6.out.res.2.1
  have f2 := I6.out.res.2.2
  go_wp2_with fail
  exact bodyPost_ret (v := .tuple #[.agg #[.int .u64 (ub R.1), .int .u64 (ub R.2)], .int .i64 0]) (by simp [results, Try.results6, go_sem, s0, s1, s2, f1, f2]; try rfl) rfl ⟨rfl, (I6.out.bel.setCell (by simp; try omega) _).setCell (by simp; try omega) _⟩

set_option maxHeartbeats 16000000 in
theorem qAlu_9_true (a b : Tn) (w : World) (ha : mayS a = true) (hb : mayS b = true) :
    Calls Try.prog 6 #[.int .i64 9, .bool true, tv a, tv b] w fun e w' => e = .returned (.tuple #[tv (resS 9 true (cutK a (sizeW true)) (cutK b (sizeW true))), .int .i64 0]) ∧ Below w.heap.size w w' := by
  have lA : a.1.toNat ≤ a.2.toNat := by unfold mayS at ha; simpa using ha
  have lB : b.1.toNat ≤ b.2.toNat := by unfold mayS at hb; simpa using hb
  have mA : a.2.toNat < modW true := a.2.isLt
  have mB : b.2.toNat < modW true := b.2.isLt
  have HA := fun W => qMay_any a W
  have HC := fun W => qMay_any b W
  rw [ha] at HA
  rw [hb] at HC
  rw [show sizeW true = 64 from rfl, cut_all a ha, cut_all b hb]
  clear ha hb
  have HT := fun W => qTop_any 64 W (by decide)
  rw [show (1#64 <<< 64 - 1#64 : B64) = topW true by decide] at HT
  rw [show resS 9 true a b = restS a b from rfl]
  have HP' := hid fun W => qRest_any a b W lB
  obtain ⟨R, hR⟩ : ∃ R, R = restS a b := ⟨_, rfl⟩
  rw [← hR] at HP' ⊢
  clear hR
  have I0 : AI w a b (((w.alloc (.cells #[.int .u64 (ub a.1), .int .u64 (ub a.2)] 24)).alloc (.cells #[.int .u64 (ub b.1), .int .u64 (ub b.2)] 24)).alloc (.cells #[.int .u64 0, .int .u64 0] 24)) := by
    refine ⟨((TB.new rfl).below ((Below.refl _ _).alloc (Nat.le_refl _) _)).below ((Below.refl _ _).alloc (Nat.le_refl _) _), (TB.new (by simp)).below ((Below.refl _ _).alloc (Nat.le_refl _) _), TB.new (a := t0) (by simp), (((Below.refl _ _).alloc (Nat.le_refl _) _).alloc (by simp) _).alloc (by simp; omega) _⟩
  have I1 := hid I0
  clear I0
  generalize topW true = T at *
  replace HT := hid HT
  replace HA := hid HA
  replace HC := hid HC
  unfold tv at *
  go_enter Try.func6, Try.ntmps6
  go_wp2_with fail
  refine (HA.out _).mono ?_
  rintro e w1 ⟨rfl, z⟩
  have I2 := hid (I1.out.next z)
  clear I1 z
  have q1 := I2.out.cb.1.2.1
  have q2 := I2.out.cb.1.2.2
  go_wp2_with fail
  refine (HC.out _).mono ?_
  rintro e w2 ⟨rfl, z⟩
  have I3 := hid (I2.out.next z)
  clear I2 z q1 q2 w1
  go_wp2_with fail
  refine (HT.out _).mono ?_
  rintro e w_ ⟨rfl, hw_⟩
  subst w_
  have I6 := hid (I3.out.next ((Below.refl _ _).alloc (Nat.le_refl _) (.cells #[.int .u64 0, .int .u64 (ub T)] 24)))
  have N1 : TC (w2.alloc (.cells #[.int .u64 0, .int .u64 (ub T)] 24)) w2.heap.size (0#64, T) := TC.new (a := (0#64, T)) rfl
  have NF := hid N1
  clear I3 N1
  have p1 := I6.out.ca.1.2.1
  have p2 := I6.out.ca.1.2.2
  have p3 := I6.out.cb.1.2.1
  have p4 := I6.out.cb.1.2.2
  go_wp2_with fail
  refine (HP'.out _).mono ?_
  rintro e w5 ⟨rfl, z⟩
  have I7 := hid (I6.out.next z)
  clear I6 z p1 p2 p3 p4
  have I6 := I7
  clear I7
  have s0 := I6.out.res.1.1
  have s1 := I6.out.res.1.2.1
  have s2 := I6.out.res.1.2.2
  have f1 := I6.out.res.2.1
  have f2 := I6.out.res.2.2
  go_wp2_with fail
  exact bodyPost_ret (v := .tuple #[.agg #[.int .u64 (ub R.1), .int .u64 (ub R.2)], .int .i64 0]) (by simp [results, Try.results6, go_sem, s0, s1, s2, f1, f2]; try rfl) rfl ⟨rfl, (I6.out.bel.setCell (by simp; try omega) _).setCell (by simp; try omega) _⟩

set_option maxHeartbeats 16000000 in
theorem qAlu_9_false (a b : Tn) (w : World) (ha : mayS a = true) (hb : mayS b = true) :
    Calls Try.prog 6 #[.int .i64 9, .bool false, tv a, tv b] w fun e w' => e = .returned (.tuple #[tv (resS 9 false (cutK a (sizeW false)) (cutK b (sizeW false))), .int .i64 0]) ∧ Below w.heap.size w w' := by
  have HA := fun W => qMay_any a W
  have HC := fun W => qMay_any b W
  rw [ha] at HA
  rw [hb] at HC
  have HX := fun W => qCut_any a 32 W
  have HY := fun W => qCut_any b 32 W
  rw [show clampN 32 = 32 from rfl] at HX HY
  rw [show sizeW false = 32 from rfl]
  obtain ⟨-, lA, mA⟩ := cut_nar a ha
  obtain ⟨-, lB, mB⟩ := cut_nar b hb
  generalize cutK a 32 = A at *
  generalize cutK b 32 = B at *
  replace HX := hid HX
  replace HY := hid HY
  clear ha hb
  have HT := fun W => qTop_any 32 W (by decide)
  rw [show (1#64 <<< 32 - 1#64 : B64) = topW false by decide] at HT
  rw [show resS 9 false A B = restS A B from rfl]
  have HP' := hid fun W => qRest_any A B W lB
  obtain ⟨R, hR⟩ : ∃ R, R = restS A B := ⟨_, rfl⟩
  rw [← hR] at HP' ⊢
  clear hR
  have I0 : AI w a b (((w.alloc (.cells #[.int .u64 (ub a.1), .int .u64 (ub a.2)] 24)).alloc (.cells #[.int .u64 (ub b.1), .int .u64 (ub b.2)] 24)).alloc (.cells #[.int .u64 0, .int .u64 0] 24)) := by
    refine ⟨((TB.new rfl).below ((Below.refl _ _).alloc (Nat.le_refl _) _)).below ((Below.refl _ _).alloc (Nat.le_refl _) _), (TB.new (by simp)).below ((Below.refl _ _).alloc (Nat.le_refl _) _), TB.new (a := t0) (by simp), (((Below.refl _ _).alloc (Nat.le_refl _) _).alloc (by simp) _).alloc (by simp; omega) _⟩
  have I1 := hid I0
  clear I0
  generalize topW false = T at *
  replace HT := hid HT
  replace HA := hid HA
  replace HC := hid HC
  unfold tv at *
  go_enter Try.func6, Try.ntmps6
  go_wp2_with fail
  refine (HA.out _).mono ?_
  rintro e w1 ⟨rfl, z⟩
  have I2 := hid (I1.out.next z)
  clear I1 z
  have q1 := I2.out.cb.1.2.1
  have q2 := I2.out.cb.1.2.2
  go_wp2_with fail
  refine (HC.out _).mono ?_
  rintro e w2 ⟨rfl, z⟩
  have I3 := hid (I2.out.next z)
  clear I2 z q1 q2 w1
  have q1 := I3.out.ca.1.2.1
  have q2 := I3.out.ca.1.2.2
  go_wp2_with fail
  refine (HX.out _).mono ?_
  rintro e w3 ⟨rfl, z⟩
  have I4 := hid ((I3.out.next z).putA A)
  have IX := hid (I3.out.next z)
  clear I3 z q1 q2 w2
  have r0 := IX.out.ca.1.1
  have r1 := IX.out.ca.1.2.1
  have r2 := IX.out.ca.1.2.2
  have r3 := IX.out.ca.2.1
  have r4 := IX.out.ca.2.2
  have q1 := I4.out.cb.1.2.1
  have q2 := I4.out.cb.1.2.2
  go_wp2_with fail
  clear IX r0 r1 r2 r3 r4 q1 q2
  generalize (w3.setCell ⟨w.heap.size, 0, none⟩ (.int .u64 (ub A.1))).setCell ⟨w.heap.size, 1, none⟩ (.int .u64 (ub A.2)) = w3' at *
  refine (HY.out _).mono ?_
  rintro e w4 ⟨rfl, z⟩
  have I5 := hid ((I4.out.next z).putB B)
  have IX := hid (I4.out.next z)
  clear I4 z w3'
  have r0 := IX.out.cb.1.1
  have r1 := IX.out.cb.1.2.1
  have r2 := IX.out.cb.1.2.2
  have r3 := IX.out.cb.2.1
  have r4 := IX.out.cb.2.2
  go_wp2_with fail
  clear IX r0 r1 r2 r3 r4
  generalize (w4.setCell ⟨w.heap.size + 1, 0, none⟩ (.int .u64 (ub B.1))).setCell ⟨w.heap.size + 1, 1, none⟩ (.int .u64 (ub B.2)) = w2 at *
  have I3 := I5
  clear I5
  refine (HT.out _).mono ?_
  rintro e w_ ⟨rfl, hw_⟩
  subst w_
  have I6 := hid (I3.out.next ((Below.refl _ _).alloc (Nat.le_refl _) (.cells #[.int .u64 0, .int .u64 (ub T)] 24)))
  have N1 : TC (w2.alloc (.cells #[.int .u64 0, .int .u64 (ub T)] 24)) w2.heap.size (0#64, T) := TC.new (a := (0#64, T)) rfl
  have NF := hid N1
  clear I3 N1
  have p1 := I6.out.ca.1.2.1
  have p2 := I6.out.ca.1.2.2
  have p3 := I6.out.cb.1.2.1
  have p4 := I6.out.cb.1.2.2
  go_wp2_with fail
  refine (HP'.out _).mono ?_
  rintro e w5 ⟨rfl, z⟩
  have I7 := hid (I6.out.next z)
  clear I6 z p1 p2 p3 p4
  have I6 := I7
  clear I7
  have s0 := I6.out.res.1.1
  have s1 := I6.out.res.1.2.1
  have s2 := I6.out.res.1.2.2
  have f1 := I6.out.res.2.1
  have f2 := I6.out.res.2.2
  go_wp2_with fail
  exact bodyPost_ret (v := .tuple #[.agg #[.int .u64 (ub R.1), .int .u64 (ub R.2)], .int .i64 0]) (by simp [results, Try.results6, go_sem, s0, s1, s2, f1, f2]; try rfl) rfl ⟨rfl, (I6.out.bel.setCell (by simp; try omega) _).setCell (by simp; try omega) _⟩

end Go.Proofs.Ytjcnpjidkimldaa
