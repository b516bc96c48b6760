/-
  Contract of the document's Alu, operation by operation.
-/
import Derived.Test.YtjcnpjidkimldaaASqE
import Derived.Test.YtjcnpjidkimldaaASqF
namespace Go.Proofs.Ytjcnpjidkimldaa
set_option linter.unusedSimpArgs false
set_option linter.unusedVariables false
set_option maxRecDepth 100000
set_option maxRecDepth 100000
open Go.ChangeShapes Go.WideShapes Go.ChangeAt Go.RowKit Sq


namespace Sq
theorem cnt_ok (c : Bool) (b : Tn) (hb : b.1.toNat ≤ b.2.toNat) : (countS c b).1.toNat ≤ (countS c b).2.toNat ∧ (countS c b).1.toNat ≤ (countS c b).2.toNat ∧ (countS c b).2.toNat < sizeW c := by
  obtain ⟨c1, c2, c3⟩ := count_ok c b hb
  exact ⟨by omega, by omega, by omega⟩
def shR6 (c : Bool) (a k : Tn) : Tn := prodS c a (powS k)
def shR7 (c : Bool) (a k : Tn) : Tn := quotS a (powS k)
def shR12 (c : Bool) (a k : Tn) : Tn := signS c a k
end Sq
theorem qSh7_any (c : Bool) (a k : Tn) (w : World) (la : a.1.toNat ≤ a.2.toNat) (ma : a.2.toNat < modW c) (c2 : k.1.toNat ≤ k.2.toNat) (c3 : k.2.toNat < sizeW c) :
    Calls Try.prog 27 #[.int .i64 7, tv a, .int .i64 (ub k.1), .int .i64 (ub k.2), .int .i64 (szI c)] w fun e w' => e = .returned (tv (shR7 c a k)) ∧ Below w.heap.size w w' := by
  have h64 := sizeW_le c
  have key := qShift7 c a k.1.toNat k.2.toNat w c2 c3
  have hT := topW_toNat c
  rw [sh_down la c2 (by omega) (by omega)] at key
  have e : shR7 c a k = (a.1 / (1#64 <<< k.2.toNat), a.2 / (1#64 <<< k.1.toNat)) := by
    unfold shR7 quotS powS
    have h1 := toNat_bit k.1.toNat (by omega)
    have h2 := toNat_bit k.2.toNat (by omega)
    have p1 := Nat.two_pow_pos k.1.toNat
    have p2 := Nat.two_pow_pos k.2.toNat
    dsimp only
    rw [if_neg (by rw [toNat_zero_iff]; omega), if_neg (by rw [toNat_zero_iff]; omega)]
  rw [e]
  exact key
theorem qSh6_any (c : Bool) (a k : Tn) (w : World) (la : a.1.toNat ≤ a.2.toNat) (ma : a.2.toNat < modW c) (c2 : k.1.toNat ≤ k.2.toNat) (c3 : k.2.toNat < sizeW c) :
    Calls Try.prog 27 #[.int .i64 6, tv a, .int .i64 (ub k.1), .int .i64 (ub k.2), .int .i64 (szI c)] w fun e w' => e = .returned (tv (shR6 c a k)) ∧ Below w.heap.size w w' := by
  have h64 := sizeW_le c
  have h2 := toNat_bit k.2.toNat (by omega)
  have e : shR6 c a k = docProd c a (powS k) := (prod_doc c a (powS k)).symm
  unfold docProd powS at e
  dsimp only at e
  rw [h2] at e
  rw [e]
  by_cases ht : (topW c).toNat < a.2.toNat * 2 ^ k.2.toNat
  · rw [if_pos (decide_eq_true ht)]
    exact qShift6f c a k.1.toNat k.2.toNat w c2 c3 ht
  · rw [if_neg (by simpa using ht)]
    have key := qShift6 c a k.1.toNat k.2.toNat w c2 c3 (by omega)
    rw [sh_up la c2 (by omega) (by omega)] at key
    exact key
theorem qSh12_any (c : Bool) (a k : Tn) (w : World) (la : a.1.toNat ≤ a.2.toNat) (ma : a.2.toNat < modW c) (c2 : k.1.toNat ≤ k.2.toNat) (c3 : k.2.toNat < sizeW c) :
    Calls Try.prog 27 #[.int .i64 12, tv a, .int .i64 (ub k.1), .int .i64 (ub k.2), .int .i64 (szI c)] w fun e w' => e = .returned (tv (shR12 c a k)) ∧ Below w.heap.size w w' := by
  have h64 := sizeW_le c
  have key := qShift12 c a k.1.toNat k.2.toNat w c2 c3
  have hp : (1#64 <<< (sizeW c - 1)).toNat = modW c / 2 := by
    rw [toNat_bit _ (by have : 0 < sizeW c := by cases c <;> decide
                        omega)]
    cases c <;> rfl
  have hq : ((1#64 <<< (sizeW c - 1)) - 1#64 : B64).toNat = modW c / 2 - 1 := by
    rw [sub64, hp]
    have : (1#64 : B64).toNat = 1 := rfl
    rcases modW_two c with h | h <;> rw [h] <;> omega
  rw [hp] at key
  have hs := sh_sign (w := c) (a := a) (dr := fun x j => drB (1#64 <<< (sizeW c - 1)) x j) (fun x j hx _ => drB_is c x hx j) la ma c2 (by omega) hq hp
  rw [hs] at key
  exact key

set_option maxHeartbeats 16000000 in
theorem qAlu_6_true (a b : Tn) (w : World) (ha : mayS a = true) (hb : mayS b = true) :
    Calls Try.prog 6 #[.int .i64 6, .bool true, tv a, tv b] w fun e w' => e = .returned (.tuple #[tv (resS 6 true (cutK a (sizeW true)) (cutK b (sizeW true))), .int .i64 0]) ∧ Below w.heap.size w w' := by
  have lA : a.1.toNat ≤ a.2.toNat := by unfold mayS at ha; simpa using ha
  have lB : b.1.toNat ≤ b.2.toNat := by unfold mayS at hb; simpa using hb
  have mA : a.2.toNat < modW true := a.2.isLt
  have mB : b.2.toNat < modW true := b.2.isLt
  have HA := fun W => qMay_any a W
  have HC := fun W => qMay_any b W
  rw [ha] at HA
  rw [hb] at HC
  rw [show sizeW true = 64 from rfl, cut_all a ha, cut_all b hb]
  clear ha hb
  have HT := fun W => qTop_any 64 W (by decide)
  rw [show (1#64 <<< 64 - 1#64 : B64) = topW true by decide] at HT
  have HN := hid fun W => qCounts_any true b W lB
  obtain ⟨c1, c2, c3⟩ := Sq.cnt_ok true b lB
  have HS := fun W => qSh6_any true a (countS true b) W lA mA c2 c3
  rw [show resS 6 true a b = shR6 true a (countS true b) from rfl]
  generalize shR6 true a (countS true b) = R at *
  generalize countS true b = K at *
  replace HS := hid HS
  unfold szI at HN HS
  simp only [if_true, Bool.false_eq_true, if_false] at HN HS
  have I0 : AI w a b (((w.alloc (.cells #[.int .u64 (ub a.1), .int .u64 (ub a.2)] 24)).alloc (.cells #[.int .u64 (ub b.1), .int .u64 (ub b.2)] 24)).alloc (.cells #[.int .u64 0, .int .u64 0] 24)) := by
    refine ⟨((TB.new rfl).below ((Below.refl _ _).alloc (Nat.le_refl _) _)).below ((Below.refl _ _).alloc (Nat.le_refl _) _), (TB.new (by simp)).below ((Below.refl _ _).alloc (Nat.le_refl _) _), TB.new (a := t0) (by simp), (((Below.refl _ _).alloc (Nat.le_refl _) _).alloc (by simp) _).alloc (by simp; omega) _⟩
  have I1 := hid I0
  clear I0
  generalize topW true = T at *
  replace HT := hid HT
  replace HA := hid HA
  replace HC := hid HC
  unfold tv at *
  go_enter Try.func6, Try.ntmps6
  go_wp2_with fail
  refine (HA.out _).mono ?_
  rintro e w1 ⟨rfl, z⟩
  have I2 := hid (I1.out.next z)
  clear I1 z
  have q1 := I2.out.cb.1.2.1
  have q2 := I2.out.cb.1.2.2
  go_wp2_with fail
  refine (HC.out _).mono ?_
  rintro e w2 ⟨rfl, z⟩
  have I3 := hid (I2.out.next z)
  clear I2 z q1 q2 w1
  go_wp2_with fail
  refine (HT.out _).mono ?_
  rintro e w_ ⟨rfl, hw_⟩
  subst w_
  have I6 := hid (I3.out.next ((Below.refl _ _).alloc (Nat.le_refl _) (.cells #[.int .u64 0, .int .u64 (ub T)] 24)))
  have N1 : TC (w2.alloc (.cells #[.int .u64 0, .int .u64 (ub T)] 24)) w2.heap.size (0#64, T) := TC.new (a := (0#64, T)) rfl
  have NF := hid N1
  clear I3 N1
  have p1 := I6.out.ca.1.2.1
  have p2 := I6.out.ca.1.2.2
  have p3 := I6.out.cb.1.2.1
  have p4 := I6.out.cb.1.2.2
  go_wp2_with fail
  refine (HN.out _).mono ?_
  rintro e w5 ⟨rfl, z⟩
  have I7 := hid (I6.out.next z)
  clear I6 z p1 p2 p3 p4
  have I6 := I7
  clear I7
  have p1 := I6.out.ca.1.2.1
  have p2 := I6.out.ca.1.2.2
  have p3 := I6.out.cb.1.2.1
  have p4 := I6.out.cb.1.2.2
  go_wp2_with fail
  refine (HS.out _).mono ?_
  rintro e w6 ⟨rfl, z⟩
  have I7 := hid (I6.out.next z)
  clear I6 z p1 p2 p3 p4
  have I6 := I7
  clear I7
  have s0 := I6.out.res.1.1
  have s1 := I6.out.res.1.2.1
  have s2 := I6.out.res.1.2.2
  have f1 := I6.out.res.2.1
  have f2 := I6.out.res.2.2
  go_wp2_with fail
  exact bodyPost_ret (v := .tuple #[.agg #[.int .u64 (ub R.1), .int .u64 (ub R.2)], .int .i64 0]) (by simp [results, Try.results6, go_sem, s0, s1, s2, f1, f2]; try rfl) rfl ⟨rfl, (I6.out.bel.setCell (by simp; try omega) _).setCell (by simp; try omega) _⟩

set_option maxHeartbeats 16000000 in
theorem qAlu_6_false (a b : Tn) (w : World) (ha : mayS a = true) (hb : mayS b = true) :
    Calls Try.prog 6 #[.int .i64 6, .bool false, tv a, tv b] w fun e w' => e = .returned (.tuple #[tv (resS 6 false (cutK a (sizeW false)) (cutK b (sizeW false))), .int .i64 0]) ∧ Below w.heap.size w w' := by
  have HA := fun W => qMay_any a W
  have HC := fun W => qMay_any b W
  rw [ha] at HA
  rw [hb] at HC
  have HX := fun W => qCut_any a 32 W
  have HY := fun W => qCut_any b 32 W
  rw [show clampN 32 = 32 from rfl] at HX HY
  rw [show sizeW false = 32 from rfl]
  obtain ⟨-, lA, mA⟩ := cut_nar a ha
  obtain ⟨-, lB, mB⟩ := cut_nar b hb
  generalize cutK a 32 = A at *
  generalize cutK b 32 = B at *
  replace HX := hid HX
  replace HY := hid HY
  clear ha hb
  have HT := fun W => qTop_any 32 W (by decide)
  rw [show (1#64 <<< 32 - 1#64 : B64) = topW false by decide] at HT
  have HN := hid fun W => qCounts_any false B W lB
  obtain ⟨c1, c2, c3⟩ := Sq.cnt_ok false B lB
  have HS := fun W => qSh6_any false A (countS false B) W lA mA c2 c3
  rw [show resS 6 false A B = shR6 false A (countS false B) from rfl]
  generalize shR6 false A (countS false B) = R at *
  generalize countS false B = K at *
  replace HS := hid HS
  unfold szI at HN HS
  simp only [if_true, Bool.false_eq_true, if_false] at HN HS
  have I0 : AI w a b (((w.alloc (.cells #[.int .u64 (ub a.1), .int .u64 (ub a.2)] 24)).alloc (.cells #[.int .u64 (ub b.1), .int .u64 (ub b.2)] 24)).alloc (.cells #[.int .u64 0, .int .u64 0] 24)) := by
    refine ⟨((TB.new rfl).below ((Below.refl _ _).alloc (Nat.le_refl _) _)).below ((Below.refl _ _).alloc (Nat.le_refl _) _), (TB.new (by simp)).below ((Below.refl _ _).alloc (Nat.le_refl _) _), TB.new (a := t0) (by simp), (((Below.refl _ _).alloc (Nat.le_refl _) _).alloc (by simp) _).alloc (by simp; omega) _⟩
  have I1 := hid I0
  clear I0
  generalize topW false = T at *
  replace HT := hid HT
  replace HA := hid HA
  replace HC := hid HC
  unfold tv at *
  go_enter Try.func6, Try.ntmps6
  go_wp2_with fail
  refine (HA.out _).mono ?_
  rintro e w1 ⟨rfl, z⟩
  have I2 := hid (I1.out.next z)
  clear I1 z
  have q1 := I2.out.cb.1.2.1
  have q2 := I2.out.cb.1.2.2
  go_wp2_with fail
  refine (HC.out _).mono ?_
  rintro e w2 ⟨rfl, z⟩
  have I3 := hid (I2.out.next z)
  clear I2 z q1 q2 w1
  have q1 := I3.out.ca.1.2.1
  have q2 := I3.out.ca.1.2.2
  go_wp2_with fail
  refine (HX.out _).mono ?_
  rintro e w3 ⟨rfl, z⟩
  have I4 := hid ((I3.out.next z).putA A)
  have IX := hid (I3.out.next z)
  clear I3 z q1 q2 w2
  have r0 := IX.out.ca.1.1
  have r1 := IX.out.ca.1.2.1
  have r2 := IX.out.ca.1.2.2
  have r3 := IX.out.ca.2.1
  have r4 := IX.out.ca.2.2
  have q1 := I4.out.cb.1.2.1
  have q2 := I4.out.cb.1.2.2
  go_wp2_with fail
  clear IX r0 r1 r2 r3 r4 q1 q2
  generalize (w3.setCell ⟨w.heap.size, 0, none⟩ (.int .u64 (ub A.1))).setCell ⟨w.heap.size, 1, none⟩ (.int .u64 (ub A.2)) = w3' at *
  refine (HY.out _).mono ?_
  rintro e w4 ⟨rfl, z⟩
  have I5 := hid ((I4.out.next z).putB B)
  have IX := hid (I4.out.next z)
  clear I4 z w3'
  have r0 := IX.out.cb.1.1
  have r1 := IX.out.cb.1.2.1
  have r2 := IX.out.cb.1.2.2
  have r3 := IX.out.cb.2.1
  have r4 := IX.out.cb.2.2
  go_wp2_with fail
  clear IX r0 r1 r2 r3 r4
  generalize (w4.setCell ⟨w.heap.size + 1, 0, none⟩ (.int .u64 (ub B.1))).setCell ⟨w.heap.size + 1, 1, none⟩ (.int .u64 (ub B.2)) = w2 at *
  have I3 := I5
  clear I5
  refine (HT.out _).mono ?_
  rintro e w_ ⟨rfl, hw_⟩
  subst w_
  have I6 := hid (I3.out.next ((Below.refl _ _).alloc (Nat.le_refl _) (.cells #[.int .u64 0, .int .u64 (ub T)] 24)))
  have N1 : TC (w2.alloc (.cells #[.int .u64 0, .int .u64 (ub T)] 24)) w2.heap.size (0#64, T) := TC.new (a := (0#64, T)) rfl
  have NF := hid N1
  clear I3 N1
  have p1 := I6.out.ca.1.2.1
  have p2 := I6.out.ca.1.2.2
  have p3 := I6.out.cb.1.2.1
  have p4 := I6.out.cb.1.2.2
  go_wp2_with fail
  refine (HN.out _).mono ?_
  rintro e w5 ⟨rfl, z⟩
  have I7 := hid (I6.out.next z)
  clear I6 z p1 p2 p3 p4
  have I6 := I7
  clear I7
  have p1 := I6.out.ca.1.2.1
  have p2 := I6.out.ca.1.2.2
  have p3 := I6.out.cb.1.2.1
  have p4 := I6.out.cb.1.2.2
  go_wp2_with fail
  refine (HS.out _).mono ?_
  rintro e w6 ⟨rfl, z⟩
  have I7 := hid (I6.out.next z)
  clear I6 z p1 p2 p3 p4
  have I6 := I7
  clear I7
  have s0 := I6.out.res.1.1
  have s1 := I6.out.res.1.2.1
  have s2 := I6.out.res.1.2.2
  have f1 := I6.out.res.2.1
  have f2 := I6.out.res.2.2
  go_wp2_with fail
  exact bodyPost_ret (v := .tuple #[.agg #[.int .u64 (ub R.1), .int .u64 (ub R.2)], .int .i64 0]) (by simp [results, Try.results6, go_sem, s0, s1, s2, f1, f2]; try rfl) rfl ⟨rfl, (I6.out.bel.setCell (by simp; try omega) _).setCell (by simp; try omega) _⟩

set_option maxHeartbeats 16000000 in
theorem qAlu_7_true (a b : Tn) (w : World) (ha : mayS a = true) (hb : mayS b = true) :
    Calls Try.prog 6 #[.int .i64 7, .bool true, tv a, tv b] w fun e w' => e = .returned (.tuple #[tv (resS 7 true (cutK a (sizeW true)) (cutK b (sizeW true))), .int .i64 0]) ∧ Below w.heap.size w w' := by
  have lA : a.1.toNat ≤ a.2.toNat := by unfold mayS at ha; simpa using ha
  have lB : b.1.toNat ≤ b.2.toNat := by unfold mayS at hb; simpa using hb
  have mA : a.2.toNat < modW true := a.2.isLt
  have mB : b.2.toNat < modW true := b.2.isLt
  have HA := fun W => qMay_any a W
  have HC := fun W => qMay_any b W
  rw [ha] at HA
  rw [hb] at HC
  rw [show sizeW true = 64 from rfl, cut_all a ha, cut_all b hb]
  clear ha hb
  have HT := fun W => qTop_any 64 W (by decide)
  rw [show (1#64 <<< 64 - 1#64 : B64) = topW true by decide] at HT
  have HN := hid fun W => qCounts_any true b W lB
  obtain ⟨c1, c2, c3⟩ := Sq.cnt_ok true b lB
  have HS := fun W => qSh7_any true a (countS true b) W lA mA c2 c3
  rw [show resS 7 true a b = shR7 true a (countS true b) from rfl]
  generalize shR7 true a (countS true b) = R at *
  generalize countS true b = K at *
  replace HS := hid HS
  unfold szI at HN HS
  simp only [if_true, Bool.false_eq_true, if_false] at HN HS
  have I0 : AI w a b (((w.alloc (.cells #[.int .u64 (ub a.1), .int .u64 (ub a.2)] 24)).alloc (.cells #[.int .u64 (ub b.1), .int .u64 (ub b.2)] 24)).alloc (.cells #[.int .u64 0, .int .u64 0] 24)) := by
    refine ⟨((TB.new rfl).below ((Below.refl _ _).alloc (Nat.le_refl _) _)).below ((Below.refl _ _).alloc (Nat.le_refl _) _), (TB.new (by simp)).below ((Below.refl _ _).alloc (Nat.le_refl _) _), TB.new (a := t0) (by simp), (((Below.refl _ _).alloc (Nat.le_refl _) _).alloc (by simp) _).alloc (by simp; omega) _⟩
  have I1 := hid I0
  clear I0
  generalize topW true = T at *
  replace HT := hid HT
  replace HA := hid HA
  replace HC := hid HC
  unfold tv at *
  go_enter Try.func6, Try.ntmps6
  go_wp2_with fail
  refine (HA.out _).mono ?_
  rintro e w1 ⟨rfl, z⟩
  have I2 := hid (I1.out.next z)
  clear I1 z
  have q1 := I2.out.cb.1.2.1
  have q2 := I2.out.cb.1.2.2
  go_wp2_with fail
  refine (HC.out _).mono ?_
  rintro e w2 ⟨rfl, z⟩
  have I3 := hid (I2.out.next z)
  clear I2 z q1 q2 w1
  go_wp2_with fail
  refine (HT.out _).mono ?_
  rintro e w_ ⟨rfl, hw_⟩
  subst w_
  have I6 := hid (I3.out.next ((Below.refl _ _).alloc (Nat.le_refl _) (.cells #[.int .u64 0, .int .u64 (ub T)] 24)))
  have N1 : TC (w2.alloc (.cells #[.int .u64 0, .int .u64 (ub T)] 24)) w2.heap.size (0#64, T) := TC.new (a := (0#64, T)) rfl
  have NF := hid N1
  clear I3 N1
  have p1 := I6.out.ca.1.2.1
  have p2 := I6.out.ca.1.2.2
  have p3 := I6.out.cb.1.2.1
  have p4 := I6.out.cb.1.2.2
  go_wp2_with fail
  refine (HN.out _).mono ?_
  rintro e w5 ⟨rfl, z⟩
  have I7 := hid (I6.out.next z)
  clear I6 z p1 p2 p3 p4
  have I6 := I7
  clear I7
  have p1 := I6.out.ca.1.2.1
  have p2 := I6.out.ca.1.2.2
  have p3 := I6.out.cb.1.2.1
  have p4 := I6.out.cb.1.2.2
  go_wp2_with fail
  refine (HS.out _).mono ?_
  rintro e w6 ⟨rfl, z⟩
  have I7 := hid (I6.out.next z)
  clear I6 z p1 p2 p3 p4
  have I6 := I7
  clear I7
  have s0 := I6.out.res.1.1
  have s1 := I6.out.res.1.2.1
  have s2 := I6.out.res.1.2.2
  have f1 := I6.out.res.2.1
  have f2 := I6.out.res.2.2
  go_wp2_with fail
  exact bodyPost_ret (v := .tuple #[.agg #[.int .u64 (ub R.1), .int .u64 (ub R.2)], .int .i64 0]) (by simp [results, Try.results6, go_sem, s0, s1, s2, f1, f2]; try rfl) rfl ⟨rfl, (I6.out.bel.setCell (by simp; try omega) _).setCell (by simp; try omega) _⟩

set_option maxHeartbeats 16000000 in
theorem qAlu_7_false (a b : Tn) (w : World) (ha : mayS a = true) (hb : mayS b = true) :
    Calls Try.prog 6 #[.int .i64 7, .bool false, tv a, tv b] w fun e w' => e = .returned (.tuple #[tv (resS 7 false (cutK a (sizeW false)) (cutK b (sizeW false))), .int .i64 0]) ∧ Below w.heap.size w w' := by
  have HA := fun W => qMay_any a W
  have HC := fun W => qMay_any b W
  rw [ha] at HA
  rw [hb] at HC
  have HX := fun W => qCut_any a 32 W
  have HY := fun W => qCut_any b 32 W
  rw [show clampN 32 = 32 from rfl] at HX HY
  rw [show sizeW false = 32 from rfl]
  obtain ⟨-, lA, mA⟩ := cut_nar a ha
  obtain ⟨-, lB, mB⟩ := cut_nar b hb
  generalize cutK a 32 = A at *
  generalize cutK b 32 = B at *
  replace HX := hid HX
  replace HY := hid HY
  clear ha hb
  have HT := fun W => qTop_any 32 W (by decide)
  rw [show (1#64 <<< 32 - 1#64 : B64) = topW false by decide] at HT
  have HN := hid fun W => qCounts_any false B W lB
  obtain ⟨c1, c2, c3⟩ := Sq.cnt_ok false B lB
  have HS := fun W => qSh7_any false A (countS false B) W lA mA c2 c3
  rw [show resS 7 false A B = shR7 false A (countS false B) from rfl]
  generalize shR7 false A (countS false B) = R at *
  generalize countS false B = K at *
  replace HS := hid HS
  unfold szI at HN HS
  simp only [if_true, Bool.false_eq_true, if_false] at HN HS
  have I0 : AI w a b (((w.alloc (.cells #[.int .u64 (ub a.1), .int .u64 (ub a.2)] 24)).alloc (.cells #[.int .u64 (ub b.1), .int .u64 (ub b.2)] 24)).alloc (.cells #[.int .u64 0, .int .u64 0] 24)) := by
    refine ⟨((TB.new rfl).below ((Below.refl _ _).alloc (Nat.le_refl _) _)).below ((Below.refl _ _).alloc (Nat.le_refl _) _), (TB.new (by simp)).below ((Below.refl _ _).alloc (Nat.le_refl _) _), TB.new (a := t0) (by simp), (((Below.refl _ _).alloc (Nat.le_refl _) _).alloc (by simp) _).alloc (by simp; omega) _⟩
  have I1 := hid I0
  clear I0
  generalize topW false = T at *
  replace HT := hid HT
  replace HA := hid HA
  replace HC := hid HC
  unfold tv at *
  go_enter Try.func6, Try.ntmps6
  go_wp2_with fail
  refine (HA.out _).mono ?_
  rintro e w1 ⟨rfl, z⟩
  have I2 := hid (I1.out.next z)
  clear I1 z
  have q1 := I2.out.cb.1.2.1
  have q2 := I2.out.cb.1.2.2
  go_wp2_with fail
  refine (HC.out _).mono ?_
  rintro e w2 ⟨rfl, z⟩
  have I3 := hid (I2.out.next z)
  clear I2 z q1 q2 w1
  have q1 := I3.out.ca.1.2.1
  have q2 := I3.out.ca.1.2.2
  go_wp2_with fail
  refine (HX.out _).mono ?_
  rintro e w3 ⟨rfl, z⟩
  have I4 := hid ((I3.out.next z).putA A)
  have IX := hid (I3.out.next z)
  clear I3 z q1 q2 w2
  have r0 := IX.out.ca.1.1
  have r1 := IX.out.ca.1.2.1
  have r2 := IX.out.ca.1.2.2
  have r3 := IX.out.ca.2.1
  have r4 := IX.out.ca.2.2
  have q1 := I4.out.cb.1.2.1
  have q2 := I4.out.cb.1.2.2
  go_wp2_with fail
  clear IX r0 r1 r2 r3 r4 q1 q2
  generalize (w3.setCell ⟨w.heap.size, 0, none⟩ (.int .u64 (ub A.1))).setCell ⟨w.heap.size, 1, none⟩ (.int .u64 (ub A.2)) = w3' at *
  refine (HY.out _).mono ?_
  rintro e w4 ⟨rfl, z⟩
  have I5 := hid ((I4.out.next z).putB B)
  have IX := hid (I4.out.next z)
  clear I4 z w3'
  have r0 := IX.out.cb.1.1
  have r1 := IX.out.cb.1.2.1
  have r2 := IX.out.cb.1.2.2
  have r3 := IX.out.cb.2.1
  have r4 := IX.out.cb.2.2
  go_wp2_with fail
  clear IX r0 r1 r2 r3 r4
  generalize (w4.setCell ⟨w.heap.size + 1, 0, none⟩ (.int .u64 (ub B.1))).setCell ⟨w.heap.size + 1, 1, none⟩ (.int .u64 (ub B.2)) = w2 at *
  have I3 := I5
  clear I5
  refine (HT.out _).mono ?_
  rintro e w_ ⟨rfl, hw_⟩
  subst w_
  have I6 := hid (I3.out.next ((Below.refl _ _).alloc (Nat.le_refl _) (.cells #[.int .u64 0, .int .u64 (ub T)] 24)))
  have N1 : TC (w2.alloc (.cells #[.int .u64 0, .int .u64 (ub T)] 24)) w2.heap.size (0#64, T) := TC.new (a := (0#64, T)) rfl
  have NF := hid N1
  clear I3 N1
  have p1 := I6.out.ca.1.2.1
  have p2 := I6.out.ca.1.2.2
  have p3 := I6.out.cb.1.2.1
  have p4 := I6.out.cb.1.2.2
  go_wp2_with fail
  refine (HN.out _).mono ?_
  rintro e w5 ⟨rfl, z⟩
  have I7 := hid (I6.out.next z)
  clear I6 z p1 p2 p3 p4
  have I6 := I7
  clear I7
  have p1 := I6.out.ca.1.2.1
  have p2 := I6.out.ca.1.2.2
  have p3 := I6.out.cb.1.2.1
  have p4 := I6.out.cb.1.2.2
  go_wp2_with fail
  refine (HS.out _).mono ?_
  rintro e w6 ⟨rfl, z⟩
  have I7 := hid (I6.out.next z)
  clear I6 z p1 p2 p3 p4
  have I6 := I7
  clear I7
  have s0 := I6.out.res.1.1
  have s1 := I6.out.res.1.2.1
  have s2 := I6.out.res.1.2.2
  have f1 := I6.out.res.2.1
  have f2 := I6.out.res.2.2
  go_wp2_with fail
  exact bodyPost_ret (v := .tuple #[.agg #[.int .u64 (ub R.1), .int .u64 (ub R.2)], .int .i64 0]) (by simp [results, Try.results6, go_sem, s0, s1, s2, f1, f2]; try rfl) rfl ⟨rfl, (I6.out.bel.setCell (by simp; try omega) _).setCell (by simp; try omega) _⟩

set_option maxHeartbeats 16000000 in
theorem qAlu_12_true (a b : Tn) (w : World) (ha : mayS a = true) (hb : mayS b = true) :
    Calls Try.prog 6 #[.int .i64 12, .bool true, tv a, tv b] w fun e w' => e = .returned (.tuple #[tv (resS 12 true (cutK a (sizeW true)) (cutK b (sizeW true))), .int .i64 0]) ∧ Below w.heap.size w w' := by
  have lA : a.1.toNat ≤ a.2.toNat := by unfold mayS at ha; simpa using ha
  have lB : b.1.toNat ≤ b.2.toNat := by unfold mayS at hb; simpa using hb
  have mA : a.2.toNat < modW true := a.2.isLt
  have mB : b.2.toNat < modW true := b.2.isLt
  have HA := fun W => qMay_any a W
  have HC := fun W => qMay_any b W
  rw [ha] at HA
  rw [hb] at HC
  rw [show sizeW true = 64 from rfl, cut_all a ha, cut_all b hb]
  clear ha hb
  have HT := fun W => qTop_any 64 W (by decide)
  rw [show (1#64 <<< 64 - 1#64 : B64) = topW true by decide] at HT
  have HN := hid fun W => qCounts_any true b W lB
  obtain ⟨c1, c2, c3⟩ := Sq.cnt_ok true b lB
  have HS := fun W => qSh12_any true a (countS true b) W lA mA c2 c3
  rw [show resS 12 true a b = shR12 true a (countS true b) from rfl]
  generalize shR12 true a (countS true b) = R at *
  generalize countS true b = K at *
  replace HS := hid HS
  unfold szI at HN HS
  simp only [if_true, Bool.false_eq_true, if_false] at HN HS
  have I0 : AI w a b (((w.alloc (.cells #[.int .u64 (ub a.1), .int .u64 (ub a.2)] 24)).alloc (.cells #[.int .u64 (ub b.1), .int .u64 (ub b.2)] 24)).alloc (.cells #[.int .u64 0, .int .u64 0] 24)) := by
    refine ⟨((TB.new rfl).below ((Below.refl _ _).alloc (Nat.le_refl _) _)).below ((Below.refl _ _).alloc (Nat.le_refl _) _), (TB.new (by simp)).below ((Below.refl _ _).alloc (Nat.le_refl _) _), TB.new (a := t0) (by simp), (((Below.refl _ _).alloc (Nat.le_refl _) _).alloc (by simp) _).alloc (by simp; omega) _⟩
  have I1 := hid I0
  clear I0
  generalize topW true = T at *
  replace HT := hid HT
  replace HA := hid HA
  replace HC := hid HC
  unfold tv at *
  go_enter Try.func6, Try.ntmps6
  go_wp2_with fail
  refine (HA.out _).mono ?_
  rintro e w1 ⟨rfl, z⟩
  have I2 := hid (I1.out.next z)
  clear I1 z
  have q1 := I2.out.cb.1.2.1
  have q2 := I2.out.cb.1.2.2
  go_wp2_with fail
  refine (HC.out _).mono ?_
  rintro e w2 ⟨rfl, z⟩
  have I3 := hid (I2.out.next z)
  clear I2 z q1 q2 w1
  go_wp2_with fail
  refine (HT.out _).mono ?_
  rintro e w_ ⟨rfl, hw_⟩
  subst w_
  have I6 := hid (I3.out.next ((Below.refl _ _).alloc (Nat.le_refl _) (.cells #[.int .u64 0, .int .u64 (ub T)] 24)))
  have N1 : TC (w2.alloc (.cells #[.int .u64 0, .int .u64 (ub T)] 24)) w2.heap.size (0#64, T) := TC.new (a := (0#64, T)) rfl
  have NF := hid N1
  clear I3 N1
  have p1 := I6.out.ca.1.2.1
  have p2 := I6.out.ca.1.2.2
  have p3 := I6.out.cb.1.2.1
  have p4 := I6.out.cb.1.2.2
  go_wp2_with fail
  refine (HN.out _).mono ?_
  rintro e w5 ⟨rfl, z⟩
  have I7 := hid (I6.out.next z)
  clear I6 z p1 p2 p3 p4
  have I6 := I7
  clear I7
  have p1 := I6.out.ca.1.2.1
  have p2 := I6.out.ca.1.2.2
  have p3 := I6.out.cb.1.2.1
  have p4 := I6.out.cb.1.2.2
  go_wp2_with fail
  refine (HS.out _).mono ?_
  rintro e w6 ⟨rfl, z⟩
  have I7 := hid (I6.out.next z)
  clear I6 z p1 p2 p3 p4
  have I6 := I7
  clear I7
  have s0 := I6.out.res.1.1
  have s1 := I6.out.res.1.2.1
  have s2 := I6.out.res.1.2.2
  have f1 := I6.out.res.2.1
  have f2 := I6.out.res.2.2
  go_wp2_with fail
  exact bodyPost_ret (v := .tuple #[.agg #[.int .u64 (ub R.1), .int .u64 (ub R.2)], .int .i64 0]) (by simp [results, Try.results6, go_sem, s0, s1, s2, f1, f2]; try rfl) rfl ⟨rfl, (I6.out.bel.setCell (by simp; try omega) _).setCell (by simp; try omega) _⟩

set_option maxHeartbeats 16000000 in
theorem qAlu_12_false (a b : Tn) (w : World) (ha : mayS a = true) (hb : mayS b = true) :
    Calls Try.prog 6 #[.int .i64 12, .bool false, tv a, tv b] w fun e w' => e = .returned (.tuple #[tv (resS 12 false (cutK a (sizeW false)) (cutK b (sizeW false))), .int .i64 0]) ∧ Below w.heap.size w w' := by
  have HA := fun W => qMay_any a W
  have HC := fun W => qMay_any b W
  rw [ha] at HA
  rw [hb] at HC
  have HX := fun W => qCut_any a 32 W
  have HY := fun W => qCut_any b 32 W
  rw [show clampN 32 = 32 from rfl] at HX HY
  rw [show sizeW false = 32 from rfl]
  obtain ⟨-, lA, mA⟩ := cut_nar a ha
  obtain ⟨-, lB, mB⟩ := cut_nar b hb
  generalize cutK a 32 = A at *
  generalize cutK b 32 = B at *
  replace HX := hid HX
  replace HY := hid HY
  clear ha hb
  have HT := fun W => qTop_any 32 W (by decide)
  rw [show (1#64 <<< 32 - 1#64 : B64) = topW false by decide] at HT
  have HN := hid fun W => qCounts_any false B W lB
  obtain ⟨c1, c2, c3⟩ := Sq.cnt_ok false B lB
  have HS := fun W => qSh12_any false A (countS false B) W lA mA c2 c3
  rw [show resS 12 false A B = shR12 false A (countS false B) from rfl]
  generalize shR12 false A (countS false B) = R at *
  generalize countS false B = K at *
  replace HS := hid HS
  unfold szI at HN HS
  simp only [if_true, Bool.false_eq_true, if_false] at HN HS
  have I0 : AI w a b (((w.alloc (.cells #[.int .u64 (ub a.1), .int .u64 (ub a.2)] 24)).alloc (.cells #[.int .u64 (ub b.1), .int .u64 (ub b.2)] 24)).alloc (.cells #[.int .u64 0, .int .u64 0] 24)) := by
    refine ⟨((TB.new rfl).below ((Below.refl _ _).alloc (Nat.le_refl _) _)).below ((Below.refl _ _).alloc (Nat.le_refl _) _), (TB.new (by simp)).below ((Below.refl _ _).alloc (Nat.le_refl _) _), TB.new (a := t0) (by simp), (((Below.refl _ _).alloc (Nat.le_refl _) _).alloc (by simp) _).alloc (by simp; omega) _⟩
  have I1 := hid I0
  clear I0
  generalize topW false = T at *
  replace HT := hid HT
  replace HA := hid HA
  replace HC := hid HC
  unfold tv at *
  go_enter Try.func6, Try.ntmps6
  go_wp2_with fail
  refine (HA.out _).mono ?_
  rintro e w1 ⟨rfl, z⟩
  have I2 := hid (I1.out.next z)
  clear I1 z
  have q1 := I2.out.cb.1.2.1
  have q2 := I2.out.cb.1.2.2
  go_wp2_with fail
  refine (HC.out _).mono ?_
  rintro e w2 ⟨rfl, z⟩
  have I3 := hid (I2.out.next z)
  clear I2 z q1 q2 w1
  have q1 := I3.out.ca.1.2.1
  have q2 := I3.out.ca.1.2.2
  go_wp2_with fail
  refine (HX.out _).mono ?_
  rintro e w3 ⟨rfl, z⟩
  have I4 := hid ((I3.out.next z).putA A)
  have IX := hid (I3.out.next z)
  clear I3 z q1 q2 w2
  have r0 := IX.out.ca.1.1
  have r1 := IX.out.ca.1.2.1
  have r2 := IX.out.ca.1.2.2
  have r3 := IX.out.ca.2.1
  have r4 := IX.out.ca.2.2
  have q1 := I4.out.cb.1.2.1
  have q2 := I4.out.cb.1.2.2
  go_wp2_with fail
  clear IX r0 r1 r2 r3 r4 q1 q2
  generalize (w3.setCell ⟨w.heap.size, 0, none⟩ (.int .u64 (ub A.1))).setCell ⟨w.heap.size, 1, none⟩ (.int .u64 (ub A.2)) = w3' at *
  refine (HY.out _).mono ?_
  rintro e w4 ⟨rfl, z⟩
  have I5 := hid ((I4.out.next z).putB B)
  have IX := hid (I4.out.next z)
  clear I4 z w3'
  have r0 := IX.out.cb.1.1
  have r1 := IX.out.cb.1.2.1
  have r2 := IX.out.cb.1.2.2
  have r3 := IX.out.cb.2.1
  have r4 := IX.out.cb.2.2
  go_wp2_with fail
  clear IX r0 r1 r2 r3 r4
  generalize (w4.setCell ⟨w.heap.size + 1, 0, none⟩ (.int .u64 (ub B.1))).setCell ⟨w.heap.size + 1, 1, none⟩ (.int .u64 (ub B.2)) = w2 at *
  have I3 := I5
  clear I5
  refine (HT.out _).mono ?_
  rintro e w_ ⟨rfl, hw_⟩
  subst w_
  have I6 := hid (I3.out.next ((Below.refl _ _).alloc (Nat.le_refl _) (.cells #[.int .u64 0, .int .u64 (ub T)] 24)))
  have N1 : TC (w2.alloc (.cells #[.int .u64 0, .int .u64 (ub T)] 24)) w2.heap.size (0#64, T) := TC.new (a := (0#64, T)) rfl
  have NF := hid N1
  clear I3 N1
  have p1 := I6.out.ca.1.2.1
  have p2 := I6.out.ca.1.2.2
  have p3 := I6.out.cb.1.2.1
  have p4 := I6.out.cb.1.2.2
  go_wp2_with fail
  refine (HN.out _).mono ?_
  rintro e w5 ⟨rfl, z⟩
  have I7 := hid (I6.out.next z)
  clear I6 z p1 p2 p3 p4
  have I6 := I7
  clear I7
  have p1 := I6.out.ca.1.2.1
  have p2 := I6.out.ca.1.2.2
  have p3 := I6.out.cb.1.2.1
  have p4 := I6.out.cb.1.2.2
  go_wp2_with fail
  refine (HS.out _).mono ?_
  rintro e w6 ⟨rfl, z⟩
  have I7 := hid (I6.out.next z)
  clear I6 z p1 p2 p3 p4
  have I6 := I7
  clear I7
  have s0 := I6.out.res.1.1
  have s1 := I6.out.res.1.2.1
  have s2 := I6.out.res.1.2.2
  have f1 := I6.out.res.2.1
  have f2 := I6.out.res.2.2
  go_wp2_with fail
  exact bodyPost_ret (v := .tuple #[.agg #[.int .u64 (ub R.1), .int .u64 (ub R.2)], .int .i64 0]) (by simp [results, Try.results6, go_sem, s0, s1, s2, f1, f2]; try rfl) rfl ⟨rfl, (I6.out.bel.setCell (by simp; try omega) _).setCell (by simp; try omega) _⟩

end Go.Proofs.Ytjcnpjidkimldaa
