/-
  Contract of the document's Alu, operation by operation.
-/
import Derived.Test.YtjcnpjidkimldaaASqF
namespace Go.Proofs.Ytjcnpjidkimldaa
set_option linter.unusedSimpArgs false
set_option linter.unusedVariables false
set_option maxRecDepth 100000
set_option maxRecDepth 100000
open Go.ChangeShapes Go.WideShapes Go.ChangeAt Go.RowKit Sq


namespace Sq
def AJ (w : World) (A B : Tn) (wr : World) : Prop := TB wr w.heap.size A ∧ TB wr (w.heap.size + 1) B ∧ (∃ s, TB wr (w.heap.size + 1 + 1) s) ∧ Below w.heap.size w wr
theorem AJ.next {w : World} {A B : Tn} {wr w' : World} (h : AJ w A B wr) (hb : Below wr.heap.size wr w') : AJ w A B w' := by
  obtain ⟨h1, h2, ⟨s, h3⟩, h4⟩ := h
  exact ⟨h1.below hb, h2.below hb, ⟨s, h3.below hb⟩, h4.trans (hb.mono h4.size)⟩
theorem AI.aj {w : World} {A B : Tn} {wr : World} (h : AI w A B wr) : AJ w A B wr := ⟨h.ca, h.cb, ⟨_, h.res⟩, h.bel⟩
theorem AJ.put {w : World} {A B : Tn} {wr : World} (h : AJ w A B wr) (x y : B64) : AJ w A B ((wr.setCell ⟨w.heap.size + 1 + 1, 0, none⟩ (.int .u64 (ub x))).setCell ⟨w.heap.size + 1 + 1, 1, none⟩ (.int .u64 (ub y))) := by
  obtain ⟨h1, h2, ⟨s, h3⟩, h4⟩ := h
  exact ⟨h1.other (by omega) _ _, h2.other (by omega) _ _, ⟨_, h3.put (x, y)⟩, (h4.setCell (by simp; omega) _).setCell (by simp; omega) _⟩
theorem bitw_gen (op : Nat) (g : Nat → Nat → Nat) (hg : IsOp g) (ho : op = 4 ∨ op = 5 ∨ op = 10) (hop : ∀ x y, opN op true x y = g x y) (a b : Tn) (ha : a.1.toNat ≤ a.2.toNat) (hb : b.1.toNat ≤ b.2.toNat) :
    (oB g a b 0 64, oB g a b 1 64) = bitwS op a b := by
  obtain ⟨hs, ⟨x1, y1, l1, m1, e1⟩, ⟨x2, y2, l2, m2, e2⟩⟩ := bitw_ends op ho true a b ha hb
  rw [hop] at e1 e2
  have k0 : leastN g (pN a) (pN b) 0 = (bitwS op a b).1.toNat := least_is hg ha hb a.2.isLt b.2.isLt ⟨x1, y1, l1, m1, e1⟩ fun x y hx hy => by
    have := (hs x y hx hy).1
    rw [hop] at this
    exact this
  have k1 : leastN g (pN a) (pN b) 1 = (bitwS op a b).2.toNat := great_is hg ha hb a.2.isLt b.2.isLt ⟨x2, y2, l2, m2, e2⟩ fun x y hx hy => by
    have := (hs x y hx hy).2
    rw [hop] at this
    exact this
  have t : ∀ want, oB g a b want 64 = BitVec.ofNat 64 (leastN g (pN a) (pN b) want) := fun _ => rfl
  rw [t, t, k0, k1]
  refine Prod.ext ?_ ?_
  · exact BitVec.ofNat_toNat _ _ |>.trans (by simp)
  · exact BitVec.ofNat_toNat _ _ |>.trans (by simp)
theorem bitw_doc4 (a b : Tn) (ha : a.1.toNat ≤ a.2.toNat) (hb : b.1.toNat ≤ b.2.toNat) : (oB (· ||| ·) a b 0 64, oB (· ||| ·) a b 1 64) = bitwS 4 a b := bitw_gen 4 _ (.inl rfl) (.inl rfl) (fun _ _ => rfl) a b ha hb
theorem bitw_doc5 (a b : Tn) (ha : a.1.toNat ≤ a.2.toNat) (hb : b.1.toNat ≤ b.2.toNat) : (oB (· &&& ·) a b 0 64, oB (· &&& ·) a b 1 64) = bitwS 5 a b := bitw_gen 5 _ (.inr (.inl rfl)) (.inr (.inl rfl)) (fun _ _ => rfl) a b ha hb
theorem bitw_doc10 (a b : Tn) (ha : a.1.toNat ≤ a.2.toNat) (hb : b.1.toNat ≤ b.2.toNat) : (oB (· ^^^ ·) a b 0 64, oB (· ^^^ ·) a b 1 64) = bitwS 10 a b := bitw_gen 10 _ (.inr (.inr rfl)) (.inr (.inr rfl)) (fun _ _ => rfl) a b ha hb
theorem one_4 (x y : Nat) (hx : x < 2) (hy : y < 2) : ((· ||| ·) : Nat → Nat → Nat) x y < 2 ∧ ∀ W, Calls Try.prog 79 #[.int .i64 ((4 : Nat) : Int), .bool true, .int .u64 (x : Int), .int .u64 (y : Int)] W fun e w' => e = .returned (.int .u64 ((((· ||| ·) : Nat → Nat → Nat) x y : Nat) : Int)) ∧ w' = W := by
  obtain rfl | rfl : x = 0 ∨ x = 1 := by omega
  · obtain rfl | rfl : y = 0 ∨ y = 1 := by omega
    · exact ⟨by decide, fun W => qOne_4_true 0#64 0#64 W⟩
    · exact ⟨by decide, fun W => qOne_4_true 0#64 1#64 W⟩
  · obtain rfl | rfl : y = 0 ∨ y = 1 := by omega
    · exact ⟨by decide, fun W => qOne_4_true 1#64 0#64 W⟩
    · exact ⟨by decide, fun W => qOne_4_true 1#64 1#64 W⟩
theorem one_5 (x y : Nat) (hx : x < 2) (hy : y < 2) : ((· &&& ·) : Nat → Nat → Nat) x y < 2 ∧ ∀ W, Calls Try.prog 79 #[.int .i64 ((5 : Nat) : Int), .bool true, .int .u64 (x : Int), .int .u64 (y : Int)] W fun e w' => e = .returned (.int .u64 ((((· &&& ·) : Nat → Nat → Nat) x y : Nat) : Int)) ∧ w' = W := by
  obtain rfl | rfl : x = 0 ∨ x = 1 := by omega
  · obtain rfl | rfl : y = 0 ∨ y = 1 := by omega
    · exact ⟨by decide, fun W => qOne_5_true 0#64 0#64 W⟩
    · exact ⟨by decide, fun W => qOne_5_true 0#64 1#64 W⟩
  · obtain rfl | rfl : y = 0 ∨ y = 1 := by omega
    · exact ⟨by decide, fun W => qOne_5_true 1#64 0#64 W⟩
    · exact ⟨by decide, fun W => qOne_5_true 1#64 1#64 W⟩
theorem one_10 (x y : Nat) (hx : x < 2) (hy : y < 2) : ((· ^^^ ·) : Nat → Nat → Nat) x y < 2 ∧ ∀ W, Calls Try.prog 79 #[.int .i64 ((10 : Nat) : Int), .bool true, .int .u64 (x : Int), .int .u64 (y : Int)] W fun e w' => e = .returned (.int .u64 ((((· ^^^ ·) : Nat → Nat → Nat) x y : Nat) : Int)) ∧ w' = W := by
  obtain rfl | rfl : x = 0 ∨ x = 1 := by omega
  · obtain rfl | rfl : y = 0 ∨ y = 1 := by omega
    · exact ⟨by decide, fun W => qOne_10_true 0#64 0#64 W⟩
    · exact ⟨by decide, fun W => qOne_10_true 0#64 1#64 W⟩
  · obtain rfl | rfl : y = 0 ∨ y = 1 := by omega
    · exact ⟨by decide, fun W => qOne_10_true 1#64 0#64 W⟩
    · exact ⟨by decide, fun W => qOne_10_true 1#64 1#64 W⟩
end Sq

set_option maxHeartbeats 16000000 in
theorem qAlu_4_true (a b : Tn) (w : World) (ha : mayS a = true) (hb : mayS b = true) :
    Calls Try.prog 6 #[.int .i64 4, .bool true, tv a, tv b] w fun e w' => e = .returned (.tuple #[tv (resS 4 true (cutK a (sizeW true)) (cutK b (sizeW true))), .int .i64 0]) ∧ Below w.heap.size w w' := by
  have lA : a.1.toNat ≤ a.2.toNat := by unfold mayS at ha; simpa using ha
  have lB : b.1.toNat ≤ b.2.toNat := by unfold mayS at hb; simpa using hb
  have mA : a.2.toNat < modW true := a.2.isLt
  have mB : b.2.toNat < modW true := b.2.isLt
  have HA := fun W => qMay_any a W
  have HC := fun W => qMay_any b W
  rw [ha] at HA
  rw [hb] at HC
  rw [show sizeW true = 64 from rfl, cut_all a ha, cut_all b hb]
  clear ha hb
  have HT := fun W => qTop_any 64 W (by decide)
  rw [show (1#64 <<< 64 - 1#64 : B64) = topW true by decide] at HT
  have HL := hid fun (want : Nat) W hw => qLeast_any 4 (· ||| ·) Sq.one_4 a b want W hw
  rw [show resS 4 true a b = bitwS 4 a b from rfl, ← Sq.bitw_doc4 a b lA lB]
  have HL0 := hid fun W => HL.out 0 W (by decide)
  have HL1 := hid fun W => HL.out 1 W (by decide)
  generalize oB (· ||| ·) a b 0 64 = R0 at *
  generalize oB (· ||| ·) a b 1 64 = R1 at *
  clear HL
  have I0 : AI w a b (((w.alloc (.cells #[.int .u64 (ub a.1), .int .u64 (ub a.2)] 24)).alloc (.cells #[.int .u64 (ub b.1), .int .u64 (ub b.2)] 24)).alloc (.cells #[.int .u64 0, .int .u64 0] 24)) := by
    refine ⟨((TB.new rfl).below ((Below.refl _ _).alloc (Nat.le_refl _) _)).below ((Below.refl _ _).alloc (Nat.le_refl _) _), (TB.new (by simp)).below ((Below.refl _ _).alloc (Nat.le_refl _) _), TB.new (a := t0) (by simp), (((Below.refl _ _).alloc (Nat.le_refl _) _).alloc (by simp) _).alloc (by simp; omega) _⟩
  have I1 := hid I0
  clear I0
  generalize topW true = T at *
  replace HT := hid HT
  replace HA := hid HA
  replace HC := hid HC
  unfold tv at *
  go_enter Try.func6, Try.ntmps6
  go_wp2_with fail
  refine (HA.out _).mono ?_
  rintro e w1 ⟨rfl, z⟩
  have I2 := hid (I1.out.next z)
  clear I1 z
  have q1 := I2.out.cb.1.2.1
  have q2 := I2.out.cb.1.2.2
  go_wp2_with fail
  refine (HC.out _).mono ?_
  rintro e w2 ⟨rfl, z⟩
  have I3 := hid (I2.out.next z)
  clear I2 z q1 q2 w1
  go_wp2_with fail
  refine (HT.out _).mono ?_
  rintro e w_ ⟨rfl, hw_⟩
  subst w_
  have I6 := hid (I3.out.next ((Below.refl _ _).alloc (Nat.le_refl _) (.cells #[.int .u64 0, .int .u64 (ub T)] 24)))
  have N1 : TC (w2.alloc (.cells #[.int .u64 0, .int .u64 (ub T)] 24)) w2.heap.size (0#64, T) := TC.new (a := (0#64, T)) rfl
  have NF := hid N1
  clear I3 N1
  go_wp2_with fail
  refine wp_region_held_drew (S := AJ w a b) (by kernel_rfl) ?_ (fun hHeld => ?_)
  · exact (I6.out.aj).next (below_dr _)
  have hA := hHeld
  refine tq 0 rfl (fun _ hS => by go_simp; try with_reducible rfl) ?_
  try simp only [s1, s2, s3]
  refine tq 1 rfl (fun _ hS => by have c0 := hS.1.1.2.1; have c1 := hS.1.1.2.2; go_simp; try with_reducible rfl) ?_
  try simp only [s1, s2, s3]
  refine tq 2 rfl (fun _ hS => by have c0 := hS.2.1.1.2.1; have c1 := hS.2.1.1.2.2; go_simp; try with_reducible rfl) ?_
  try simp only [s1, s2, s3]
  refine tq 4 rfl (fun _ hS => by go_simp; try with_reducible rfl) ?_
  try simp only [s1, s2, s3]
  refine tq 5 rfl (fun _ hS => by have c0 := hS.1.1.2.1; have c1 := hS.1.1.2.2; go_simp; try with_reducible rfl) ?_
  try simp only [s1, s2, s3]
  refine tq 6 rfl (fun _ hS => by have c0 := hS.2.1.1.2.1; have c1 := hS.2.1.1.2.2; go_simp; try with_reducible rfl) ?_
  try simp only [s1, s2, s3]
  refine wpAnyH_ready (rs := [3]) (by kernel_rfl) (by simp) ?_
  refine AllReadyH.cons rfl (fun K hK => ?_) AllReadyH.nil
  go_simp
  go_at_call 24
  refine (HL0.out _).mono ?_
  rintro e wr1 ⟨rfl, bkr1⟩
  have hAn := hA.next bkr1
  clear hA bkr1
  have hA := hAn
  clear hAn
  try go_simp
  refine hK.out _ _ ?_ (fun hHeld => ?_)
  · exact hA
  clear hK K
  (try simp only [Act.put, List.setIfInBounds_toArray, List.set_cons_zero, List.set_cons_succ])
  refine wpAnyH_ready (rs := [7]) (by kernel_rfl) (by simp) ?_
  refine AllReadyH.cons rfl (fun K hK => ?_) AllReadyH.nil
  go_simp
  go_at_call 24
  refine (HL1.out _).mono ?_
  rintro e wr2 ⟨rfl, bkr2⟩
  have hAn := hA.next bkr2
  clear hA bkr2
  have hA := hAn
  clear hAn
  try go_simp
  refine hK.out _ _ ?_ (fun hHeld => ?_)
  · exact hA
  clear hK K
  (try simp only [Act.put, List.setIfInBounds_toArray, List.set_cons_zero, List.set_cons_succ])
  refine tq 8 rfl (fun _ hS => by go_simp; try with_reducible rfl) ?_
  try simp only [s1, s2, s3]
  refine wpAnyH_ready (rs := [9]) (by kernel_rfl) (by simp) ?_
  refine AllReadyH.cons rfl (fun K hK => ?_) AllReadyH.nil
  have hA2 := hid hA
  obtain ⟨_, _, ⟨s, ⟨s0, s1, s2⟩, f1, f2⟩, _⟩ := hA
  go_simp
  refine hK.out _ _ ?_ (fun hHeld => ?_)
  · exact hA2.out.put _ _
  have hA := hHeld
  clear hK K
  (try simp only [Act.put, List.setIfInBounds_toArray, List.set_cons_zero, List.set_cons_succ])
  refine tq 10 rfl (fun _ hS => by go_simp; try with_reducible rfl) ?_
  try simp only [s1, s2, s3]
  refine wpAnyH_done (by kernel_rfl) ?_ _
  obtain ⟨s9, h9⟩ := hA2.out.2.2.1
  have r1 := (h9.put (R0, R1)).1.2.1
  have r2 := (h9.put (R0, R1)).1.2.2
  clear h9
  dsimp only at r1 r2
  have hB := hA.2.2.2
  clear hA hHeld hA2
  generalize (wr2.setCell ⟨w.heap.size + 1 + 1, 0, none⟩ (.int .u64 (ub R0))).setCell ⟨w.heap.size + 1 + 1, 1, none⟩ (.int .u64 (ub R1)) = w9 at *
  go_wp2_with fail
  exact bodyPost_ret (v := .tuple #[.agg #[.int .u64 (ub R0), .int .u64 (ub R1)], .int .i64 0]) (by simp [results, Try.results6, go_sem, r1, r2]; try rfl) rfl ⟨rfl, hB⟩

set_option maxHeartbeats 16000000 in
theorem qAlu_4_false (a b : Tn) (w : World) (ha : mayS a = true) (hb : mayS b = true) :
    Calls Try.prog 6 #[.int .i64 4, .bool false, tv a, tv b] w fun e w' => e = .returned (.tuple #[tv (resS 4 false (cutK a (sizeW false)) (cutK b (sizeW false))), .int .i64 0]) ∧ Below w.heap.size w w' := by
  have HA := fun W => qMay_any a W
  have HC := fun W => qMay_any b W
  rw [ha] at HA
  rw [hb] at HC
  have HX := fun W => qCut_any a 32 W
  have HY := fun W => qCut_any b 32 W
  rw [show clampN 32 = 32 from rfl] at HX HY
  rw [show sizeW false = 32 from rfl]
  obtain ⟨-, lA, mA⟩ := cut_nar a ha
  obtain ⟨-, lB, mB⟩ := cut_nar b hb
  generalize cutK a 32 = A at *
  generalize cutK b 32 = B at *
  replace HX := hid HX
  replace HY := hid HY
  clear ha hb
  have HT := fun W => qTop_any 32 W (by decide)
  rw [show (1#64 <<< 32 - 1#64 : B64) = topW false by decide] at HT
  have HL := hid fun (want : Nat) W hw => qLeast_any 4 (· ||| ·) Sq.one_4 A B want W hw
  rw [show resS 4 false A B = bitwS 4 A B from rfl, ← Sq.bitw_doc4 A B lA lB]
  have HL0 := hid fun W => HL.out 0 W (by decide)
  have HL1 := hid fun W => HL.out 1 W (by decide)
  generalize oB (· ||| ·) A B 0 64 = R0 at *
  generalize oB (· ||| ·) A B 1 64 = R1 at *
  clear HL
  have I0 : AI w a b (((w.alloc (.cells #[.int .u64 (ub a.1), .int .u64 (ub a.2)] 24)).alloc (.cells #[.int .u64 (ub b.1), .int .u64 (ub b.2)] 24)).alloc (.cells #[.int .u64 0, .int .u64 0] 24)) := by
    refine ⟨((TB.new rfl).below ((Below.refl _ _).alloc (Nat.le_refl _) _)).below ((Below.refl _ _).alloc (Nat.le_refl _) _), (TB.new (by simp)).below ((Below.refl _ _).alloc (Nat.le_refl _) _), TB.new (a := t0) (by simp), (((Below.refl _ _).alloc (Nat.le_refl _) _).alloc (by simp) _).alloc (by simp; omega) _⟩
  have I1 := hid I0
  clear I0
  generalize topW false = T at *
  replace HT := hid HT
  replace HA := hid HA
  replace HC := hid HC
  unfold tv at *
  go_enter Try.func6, Try.ntmps6
  go_wp2_with fail
  refine (HA.out _).mono ?_
  rintro e w1 ⟨rfl, z⟩
  have I2 := hid (I1.out.next z)
  clear I1 z
  have q1 := I2.out.cb.1.2.1
  have q2 := I2.out.cb.1.2.2
  go_wp2_with fail
  refine (HC.out _).mono ?_
  rintro e w2 ⟨rfl, z⟩
  have I3 := hid (I2.out.next z)
  clear I2 z q1 q2 w1
  have q1 := I3.out.ca.1.2.1
  have q2 := I3.out.ca.1.2.2
  go_wp2_with fail
  refine (HX.out _).mono ?_
  rintro e w3 ⟨rfl, z⟩
  have I4 := hid ((I3.out.next z).putA A)
  have IX := hid (I3.out.next z)
  clear I3 z q1 q2 w2
  have r0 := IX.out.ca.1.1
  have r1 := IX.out.ca.1.2.1
  have r2 := IX.out.ca.1.2.2
  have r3 := IX.out.ca.2.1
  have r4 := IX.out.ca.2.2
  have q1 := I4.out.cb.1.2.1
  have q2 := I4.out.cb.1.2.2
  go_wp2_with fail
  clear IX r0 r1 r2 r3 r4 q1 q2
  generalize (w3.setCell ⟨w.heap.size, 0, none⟩ (.int .u64 (ub A.1))).setCell ⟨w.heap.size, 1, none⟩ (.int .u64 (ub A.2)) = w3' at *
  refine (HY.out _).mono ?_
  rintro e w4 ⟨rfl, z⟩
  have I5 := hid ((I4.out.next z).putB B)
  have IX := hid (I4.out.next z)
  clear I4 z w3'
  have r0 := IX.out.cb.1.1
  have r1 := IX.out.cb.1.2.1
  have r2 := IX.out.cb.1.2.2
  have r3 := IX.out.cb.2.1
  have r4 := IX.out.cb.2.2
  go_wp2_with fail
  clear IX r0 r1 r2 r3 r4
  generalize (w4.setCell ⟨w.heap.size + 1, 0, none⟩ (.int .u64 (ub B.1))).setCell ⟨w.heap.size + 1, 1, none⟩ (.int .u64 (ub B.2)) = w2 at *
  have I3 := I5
  clear I5
  refine (HT.out _).mono ?_
  rintro e w_ ⟨rfl, hw_⟩
  subst w_
  have I6 := hid (I3.out.next ((Below.refl _ _).alloc (Nat.le_refl _) (.cells #[.int .u64 0, .int .u64 (ub T)] 24)))
  have N1 : TC (w2.alloc (.cells #[.int .u64 0, .int .u64 (ub T)] 24)) w2.heap.size (0#64, T) := TC.new (a := (0#64, T)) rfl
  have NF := hid N1
  clear I3 N1
  go_wp2_with fail
  refine wp_region_held_drew (S := AJ w A B) (by kernel_rfl) ?_ (fun hHeld => ?_)
  · exact (I6.out.aj).next (below_dr _)
  have hA := hHeld
  refine tq 0 rfl (fun _ hS => by go_simp; try with_reducible rfl) ?_
  try simp only [s1, s2, s3]
  refine tq 1 rfl (fun _ hS => by have c0 := hS.1.1.2.1; have c1 := hS.1.1.2.2; go_simp; try with_reducible rfl) ?_
  try simp only [s1, s2, s3]
  refine tq 2 rfl (fun _ hS => by have c0 := hS.2.1.1.2.1; have c1 := hS.2.1.1.2.2; go_simp; try with_reducible rfl) ?_
  try simp only [s1, s2, s3]
  refine tq 4 rfl (fun _ hS => by go_simp; try with_reducible rfl) ?_
  try simp only [s1, s2, s3]
  refine tq 5 rfl (fun _ hS => by have c0 := hS.1.1.2.1; have c1 := hS.1.1.2.2; go_simp; try with_reducible rfl) ?_
  try simp only [s1, s2, s3]
  refine tq 6 rfl (fun _ hS => by have c0 := hS.2.1.1.2.1; have c1 := hS.2.1.1.2.2; go_simp; try with_reducible rfl) ?_
  try simp only [s1, s2, s3]
  refine wpAnyH_ready (rs := [3]) (by kernel_rfl) (by simp) ?_
  refine AllReadyH.cons rfl (fun K hK => ?_) AllReadyH.nil
  go_simp
  go_at_call 24
  refine (HL0.out _).mono ?_
  rintro e wr1 ⟨rfl, bkr1⟩
  have hAn := hA.next bkr1
  clear hA bkr1
  have hA := hAn
  clear hAn
  try go_simp
  refine hK.out _ _ ?_ (fun hHeld => ?_)
  · exact hA
  clear hK K
  (try simp only [Act.put, List.setIfInBounds_toArray, List.set_cons_zero, List.set_cons_succ])
  refine wpAnyH_ready (rs := [7]) (by kernel_rfl) (by simp) ?_
  refine AllReadyH.cons rfl (fun K hK => ?_) AllReadyH.nil
  go_simp
  go_at_call 24
  refine (HL1.out _).mono ?_
  rintro e wr2 ⟨rfl, bkr2⟩
  have hAn := hA.next bkr2
  clear hA bkr2
  have hA := hAn
  clear hAn
  try go_simp
  refine hK.out _ _ ?_ (fun hHeld => ?_)
  · exact hA
  clear hK K
  (try simp only [Act.put, List.setIfInBounds_toArray, List.set_cons_zero, List.set_cons_succ])
  refine tq 8 rfl (fun _ hS => by go_simp; try with_reducible rfl) ?_
  try simp only [s1, s2, s3]
  refine wpAnyH_ready (rs := [9]) (by kernel_rfl) (by simp) ?_
  refine AllReadyH.cons rfl (fun K hK => ?_) AllReadyH.nil
  have hA2 := hid hA
  obtain ⟨_, _, ⟨s, ⟨s0, s1, s2⟩, f1, f2⟩, _⟩ := hA
  go_simp
  refine hK.out _ _ ?_ (fun hHeld => ?_)
  · exact hA2.out.put _ _
  have hA := hHeld
  clear hK K
  (try simp only [Act.put, List.setIfInBounds_toArray, List.set_cons_zero, List.set_cons_succ])
  refine tq 10 rfl (fun _ hS => by go_simp; try with_reducible rfl) ?_
  try simp only [s1, s2, s3]
  refine wpAnyH_done (by kernel_rfl) ?_ _
  obtain ⟨s9, h9⟩ := hA2.out.2.2.1
  have r1 := (h9.put (R0, R1)).1.2.1
  have r2 := (h9.put (R0, R1)).1.2.2
  clear h9
  dsimp only at r1 r2
  have hB := hA.2.2.2
  clear hA hHeld hA2
  generalize (wr2.setCell ⟨w.heap.size + 1 + 1, 0, none⟩ (.int .u64 (ub R0))).setCell ⟨w.heap.size + 1 + 1, 1, none⟩ (.int .u64 (ub R1)) = w9 at *
  go_wp2_with fail
  exact bodyPost_ret (v := .tuple #[.agg #[.int .u64 (ub R0), .int .u64 (ub R1)], .int .i64 0]) (by simp [results, Try.results6, go_sem, r1, r2]; try rfl) rfl ⟨rfl, hB⟩

set_option maxHeartbeats 16000000 in
theorem qAlu_5_true (a b : Tn) (w : World) (ha : mayS a = true) (hb : mayS b = true) :
    Calls Try.prog 6 #[.int .i64 5, .bool true, tv a, tv b] w fun e w' => e = .returned (.tuple #[tv (resS 5 true (cutK a (sizeW true)) (cutK b (sizeW true))), .int .i64 0]) ∧ Below w.heap.size w w' := by
  have lA : a.1.toNat ≤ a.2.toNat := by unfold mayS at ha; simpa using ha
  have lB : b.1.toNat ≤ b.2.toNat := by unfold mayS at hb; simpa using hb
  have mA : a.2.toNat < modW true := a.2.isLt
  have mB : b.2.toNat < modW true := b.2.isLt
  have HA := fun W => qMay_any a W
  have HC := fun W => qMay_any b W
  rw [ha] at HA
  rw [hb] at HC
  rw [show sizeW true = 64 from rfl, cut_all a ha, cut_all b hb]
  clear ha hb
  have HT := fun W => qTop_any 64 W (by decide)
  rw [show (1#64 <<< 64 - 1#64 : B64) = topW true by decide] at HT
  have HL := hid fun (want : Nat) W hw => qLeast_any 5 (· &&& ·) Sq.one_5 a b want W hw
  rw [show resS 5 true a b = bitwS 5 a b from rfl, ← Sq.bitw_doc5 a b lA lB]
  have HL0 := hid fun W => HL.out 0 W (by decide)
  have HL1 := hid fun W => HL.out 1 W (by decide)
  generalize oB (· &&& ·) a b 0 64 = R0 at *
  generalize oB (· &&& ·) a b 1 64 = R1 at *
  clear HL
  have I0 : AI w a b (((w.alloc (.cells #[.int .u64 (ub a.1), .int .u64 (ub a.2)] 24)).alloc (.cells #[.int .u64 (ub b.1), .int .u64 (ub b.2)] 24)).alloc (.cells #[.int .u64 0, .int .u64 0] 24)) := by
    refine ⟨((TB.new rfl).below ((Below.refl _ _).alloc (Nat.le_refl _) _)).below ((Below.refl _ _).alloc (Nat.le_refl _) _), (TB.new (by simp)).below ((Below.refl _ _).alloc (Nat.le_refl _) _), TB.new (a := t0) (by simp), (((Below.refl _ _).alloc (Nat.le_refl _) _).alloc (by simp) _).alloc (by simp; omega) _⟩
  have I1 := hid I0
  clear I0
  generalize topW true = T at *
  replace HT := hid HT
  replace HA := hid HA
  replace HC := hid HC
  unfold tv at *
  go_enter Try.func6, Try.ntmps6
  go_wp2_with fail
  refine (HA.out _).mono ?_
  rintro e w1 ⟨rfl, z⟩
  have I2 := hid (I1.out.next z)
  clear I1 z
  have q1 := I2.out.cb.1.2.1
  have q2 := I2.out.cb.1.2.2
  go_wp2_with fail
  refine (HC.out _).mono ?_
  rintro e w2 ⟨rfl, z⟩
  have I3 := hid (I2.out.next z)
  clear I2 z q1 q2 w1
  go_wp2_with fail
  refine (HT.out _).mono ?_
  rintro e w_ ⟨rfl, hw_⟩
  subst w_
  have I6 := hid (I3.out.next ((Below.refl _ _).alloc (Nat.le_refl _) (.cells #[.int .u64 0, .int .u64 (ub T)] 24)))
  have N1 : TC (w2.alloc (.cells #[.int .u64 0, .int .u64 (ub T)] 24)) w2.heap.size (0#64, T) := TC.new (a := (0#64, T)) rfl
  have NF := hid N1
  clear I3 N1
  go_wp2_with fail
  refine wp_region_held_drew (S := AJ w a b) (by kernel_rfl) ?_ (fun hHeld => ?_)
  · exact (I6.out.aj).next (below_dr _)
  have hA := hHeld
  refine tq 0 rfl (fun _ hS => by go_simp; try with_reducible rfl) ?_
  try simp only [s1, s2, s3]
  refine tq 1 rfl (fun _ hS => by have c0 := hS.1.1.2.1; have c1 := hS.1.1.2.2; go_simp; try with_reducible rfl) ?_
  try simp only [s1, s2, s3]
  refine tq 2 rfl (fun _ hS => by have c0 := hS.2.1.1.2.1; have c1 := hS.2.1.1.2.2; go_simp; try with_reducible rfl) ?_
  try simp only [s1, s2, s3]
  refine tq 4 rfl (fun _ hS => by go_simp; try with_reducible rfl) ?_
  try simp only [s1, s2, s3]
  refine tq 5 rfl (fun _ hS => by have c0 := hS.1.1.2.1; have c1 := hS.1.1.2.2; go_simp; try with_reducible rfl) ?_
  try simp only [s1, s2, s3]
  refine tq 6 rfl (fun _ hS => by have c0 := hS.2.1.1.2.1; have c1 := hS.2.1.1.2.2; go_simp; try with_reducible rfl) ?_
  try simp only [s1, s2, s3]
  refine wpAnyH_ready (rs := [3]) (by kernel_rfl) (by simp) ?_
  refine AllReadyH.cons rfl (fun K hK => ?_) AllReadyH.nil
  go_simp
  go_at_call 24
  refine (HL0.out _).mono ?_
  rintro e wr1 ⟨rfl, bkr1⟩
  have hAn := hA.next bkr1
  clear hA bkr1
  have hA := hAn
  clear hAn
  try go_simp
  refine hK.out _ _ ?_ (fun hHeld => ?_)
  · exact hA
  clear hK K
  (try simp only [Act.put, List.setIfInBounds_toArray, List.set_cons_zero, List.set_cons_succ])
  refine wpAnyH_ready (rs := [7]) (by kernel_rfl) (by simp) ?_
  refine AllReadyH.cons rfl (fun K hK => ?_) AllReadyH.nil
  go_simp
  go_at_call 24
  refine (HL1.out _).mono ?_
  rintro e wr2 ⟨rfl, bkr2⟩
  have hAn := hA.next bkr2
  clear hA bkr2
  have hA := hAn
  clear hAn
  try go_simp
  refine hK.out _ _ ?_ (fun hHeld => ?_)
  · exact hA
  clear hK K
  (try simp only [Act.put, List.setIfInBounds_toArray, List.set_cons_zero, List.set_cons_succ])
  refine tq 8 rfl (fun _ hS => by go_simp; try with_reducible rfl) ?_
  try simp only [s1, s2, s3]
  refine wpAnyH_ready (rs := [9]) (by kernel_rfl) (by simp) ?_
  refine AllReadyH.cons rfl (fun K hK => ?_) AllReadyH.nil
  have hA2 := hid hA
  obtain ⟨_, _, ⟨s, ⟨s0, s1, s2⟩, f1, f2⟩, _⟩ := hA
  go_simp
  refine hK.out _ _ ?_ (fun hHeld => ?_)
  · exact hA2.out.put _ _
  have hA := hHeld
  clear hK K
  (try simp only [Act.put, List.setIfInBounds_toArray, List.set_cons_zero, List.set_cons_succ])
  refine tq 10 rfl (fun _ hS => by go_simp; try with_reducible rfl) ?_
  try simp only [s1, s2, s3]
  refine wpAnyH_done (by kernel_rfl) ?_ _
  obtain ⟨s9, h9⟩ := hA2.out.2.2.1
  have r1 := (h9.put (R0, R1)).1.2.1
  have r2 := (h9.put (R0, R1)).1.2.2
  clear h9
  dsimp only at r1 r2
  have hB := hA.2.2.2
  clear hA hHeld hA2
  generalize (wr2.setCell ⟨w.heap.size + 1 + 1, 0, none⟩ (.int .u64 (ub R0))).setCell ⟨w.heap.size + 1 + 1, 1, none⟩ (.int .u64 (ub R1)) = w9 at *
  go_wp2_with fail
  exact bodyPost_ret (v := .tuple #[.agg #[.int .u64 (ub R0), .int .u64 (ub R1)], .int .i64 0]) (by simp [results, Try.results6, go_sem, r1, r2]; try rfl) rfl ⟨rfl, hB⟩

set_option maxHeartbeats 16000000 in
theorem qAlu_5_false (a b : Tn) (w : World) (ha : mayS a = true) (hb : mayS b = true) :
    Calls Try.prog 6 #[.int .i64 5, .bool false, tv a, tv b] w fun e w' => e = .returned (.tuple #[tv (resS 5 false (cutK a (sizeW false)) (cutK b (sizeW false))), .int .i64 0]) ∧ Below w.heap.size w w' := by
  have HA := fun W => qMay_any a W
  have HC := fun W => qMay_any b W
  rw [ha] at HA
  rw [hb] at HC
  have HX := fun W => qCut_any a 32 W
  have HY := fun W => qCut_any b 32 W
  rw [show clampN 32 = 32 from rfl] at HX HY
  rw [show sizeW false = 32 from rfl]
  obtain ⟨-, lA, mA⟩ := cut_nar a ha
  obtain ⟨-, lB, mB⟩ := cut_nar b hb
  generalize cutK a 32 = A at *
  generalize cutK b 32 = B at *
  replace HX := hid HX
  replace HY := hid HY
  clear ha hb
  have HT := fun W => qTop_any 32 W (by decide)
  rw [show (1#64 <<< 32 - 1#64 : B64) = topW false by decide] at HT
  have HL := hid fun (want : Nat) W hw => qLeast_any 5 (· &&& ·) Sq.one_5 A B want W hw
  rw [show resS 5 false A B = bitwS 5 A B from rfl, ← Sq.bitw_doc5 A B lA lB]
  have HL0 := hid fun W => HL.out 0 W (by decide)
  have HL1 := hid fun W => HL.out 1 W (by decide)
  generalize oB (· &&& ·) A B 0 64 = R0 at *
  generalize oB (· &&& ·) A B 1 64 = R1 at *
  clear HL
  have I0 : AI w a b (((w.alloc (.cells #[.int .u64 (ub a.1), .int .u64 (ub a.2)] 24)).alloc (.cells #[.int .u64 (ub b.1), .int .u64 (ub b.2)] 24)).alloc (.cells #[.int .u64 0, .int .u64 0] 24)) := by
    refine ⟨((TB.new rfl).below ((Below.refl _ _).alloc (Nat.le_refl _) _)).below ((Below.refl _ _).alloc (Nat.le_refl _) _), (TB.new (by simp)).below ((Below.refl _ _).alloc (Nat.le_refl _) _), TB.new (a := t0) (by simp), (((Below.refl _ _).alloc (Nat.le_refl _) _).alloc (by simp) _).alloc (by simp; omega) _⟩
  have I1 := hid I0
  clear I0
  generalize topW false = T at *
  replace HT := hid HT
  replace HA := hid HA
  replace HC := hid HC
  unfold tv at *
  go_enter Try.func6, Try.ntmps6
  go_wp2_with fail
  refine (HA.out _).mono ?_
  rintro e w1 ⟨rfl, z⟩
  have I2 := hid (I1.out.next z)
  clear I1 z
  have q1 := I2.out.cb.1.2.1
  have q2 := I2.out.cb.1.2.2
  go_wp2_with fail
  refine (HC.out _).mono ?_
  rintro e w2 ⟨rfl, z⟩
  have I3 := hid (I2.out.next z)
  clear I2 z q1 q2 w1
  have q1 := I3.out.ca.1.2.1
  have q2 := I3.out.ca.1.2.2
  go_wp2_with fail
  refine (HX.out _).mono ?_
  rintro e w3 ⟨rfl, z⟩
  have I4 := hid ((I3.out.next z).putA A)
  have IX := hid (I3.out.next z)
  clear I3 z q1 q2 w2
  have r0 := IX.out.ca.1.1
  have r1 := IX.out.ca.1.2.1
  have r2 := IX.out.ca.1.2.2
  have r3 := IX.out.ca.2.1
  have r4 := IX.out.ca.2.2
  have q1 := I4.out.cb.1.2.1
  have q2 := I4.out.cb.1.2.2
  go_wp2_with fail
  clear IX r0 r1 r2 r3 r4 q1 q2
  generalize (w3.setCell ⟨w.heap.size, 0, none⟩ (.int .u64 (ub A.1))).setCell ⟨w.heap.size, 1, none⟩ (.int .u64 (ub A.2)) = w3' at *
  refine (HY.out _).mono ?_
  rintro e w4 ⟨rfl, z⟩
  have I5 := hid ((I4.out.next z).putB B)
  have IX := hid (I4.out.next z)
  clear I4 z w3'
  have r0 := IX.out.cb.1.1
  have r1 := IX.out.cb.1.2.1
  have r2 := IX.out.cb.1.2.2
  have r3 := IX.out.cb.2.1
  have r4 := IX.out.cb.2.2
  go_wp2_with fail
  clear IX r0 r1 r2 r3 r4
  generalize (w4.setCell ⟨w.heap.size + 1, 0, none⟩ (.int .u64 (ub B.1))).setCell ⟨w.heap.size + 1, 1, none⟩ (.int .u64 (ub B.2)) = w2 at *
  have I3 := I5
  clear I5
  refine (HT.out _).mono ?_
  rintro e w_ ⟨rfl, hw_⟩
  subst w_
  have I6 := hid (I3.out.next ((Below.refl _ _).alloc (Nat.le_refl _) (.cells #[.int .u64 0, .int .u64 (ub T)] 24)))
  have N1 : TC (w2.alloc (.cells #[.int .u64 0, .int .u64 (ub T)] 24)) w2.heap.size (0#64, T) := TC.new (a := (0#64, T)) rfl
  have NF := hid N1
  clear I3 N1
  go_wp2_with fail
  refine wp_region_held_drew (S := AJ w A B) (by kernel_rfl) ?_ (fun hHeld => ?_)
  · exact (I6.out.aj).next (below_dr _)
  have hA := hHeld
  refine tq 0 rfl (fun _ hS => by go_simp; try with_reducible rfl) ?_
  try simp only [s1, s2, s3]
  refine tq 1 rfl (fun _ hS => by have c0 := hS.1.1.2.1; have c1 := hS.1.1.2.2; go_simp; try with_reducible rfl) ?_
  try simp only [s1, s2, s3]
  refine tq 2 rfl (fun _ hS => by have c0 := hS.2.1.1.2.1; have c1 := hS.2.1.1.2.2; go_simp; try with_reducible rfl) ?_
  try simp only [s1, s2, s3]
  refine tq 4 rfl (fun _ hS => by go_simp; try with_reducible rfl) ?_
  try simp only [s1, s2, s3]
  refine tq 5 rfl (fun _ hS => by have c0 := hS.1.1.2.1; have c1 := hS.1.1.2.2; go_simp; try with_reducible rfl) ?_
  try simp only [s1, s2, s3]
  refine tq 6 rfl (fun _ hS => by have c0 := hS.2.1.1.2.1; have c1 := hS.2.1.1.2.2; go_simp; try with_reducible rfl) ?_
  try simp only [s1, s2, s3]
  refine wpAnyH_ready (rs := [3]) (by kernel_rfl) (by simp) ?_
  refine AllReadyH.cons rfl (fun K hK => ?_) AllReadyH.nil
  go_simp
  go_at_call 24
  refine (HL0.out _).mono ?_
  rintro e wr1 ⟨rfl, bkr1⟩
  have hAn := hA.next bkr1
  clear hA bkr1
  have hA := hAn
  clear hAn
  try go_simp
  refine hK.out _ _ ?_ (fun hHeld => ?_)
  · exact hA
  clear hK K
  (try simp only [Act.put, List.setIfInBounds_toArray, List.set_cons_zero, List.set_cons_succ])
  refine wpAnyH_ready (rs := [7]) (by kernel_rfl) (by simp) ?_
  refine AllReadyH.cons rfl (fun K hK => ?_) AllReadyH.nil
  go_simp
  go_at_call 24
  refine (HL1.out _).mono ?_
  rintro e wr2 ⟨rfl, bkr2⟩
  have hAn := hA.next bkr2
  clear hA bkr2
  have hA := hAn
  clear hAn
  try go_simp
  refine hK.out _ _ ?_ (fun hHeld => ?_)
  · exact hA
  clear hK K
  (try simp only [Act.put, List.setIfInBounds_toArray, List.set_cons_zero, List.set_cons_succ])
  refine tq 8 rfl (fun _ hS => by go_simp; try with_reducible rfl) ?_
  try simp only [s1, s2, s3]
  refine wpAnyH_ready (rs := [9]) (by kernel_rfl) (by simp) ?_
  refine AllReadyH.cons rfl (fun K hK => ?_) AllReadyH.nil
  have hA2 := hid hA
  obtain ⟨_, _, ⟨s, ⟨s0, s1, s2⟩, f1, f2⟩, _⟩ := hA
  go_simp
  refine hK.out _ _ ?_ (fun hHeld => ?_)
  · exact hA2.out.put _ _
  have hA := hHeld
  clear hK K
  (try simp only [Act.put, List.setIfInBounds_toArray, List.set_cons_zero, List.set_cons_succ])
  refine tq 10 rfl (fun _ hS => by go_simp; try with_reducible rfl) ?_
  try simp only [s1, s2, s3]
  refine wpAnyH_done (by kernel_rfl) ?_ _
  obtain ⟨s9, h9⟩ := hA2.out.2.2.1
  have r1 := (h9.put (R0, R1)).1.2.1
  have r2 := (h9.put (R0, R1)).1.2.2
  clear h9
  dsimp only at r1 r2
  have hB := hA.2.2.2
  clear hA hHeld hA2
  generalize (wr2.setCell ⟨w.heap.size + 1 + 1, 0, none⟩ (.int .u64 (ub R0))).setCell ⟨w.heap.size + 1 + 1, 1, none⟩ (.int .u64 (ub R1)) = w9 at *
  go_wp2_with fail
  exact bodyPost_ret (v := .tuple #[.agg #[.int .u64 (ub R0), .int .u64 (ub R1)], .int .i64 0]) (by simp [results, Try.results6, go_sem, r1, r2]; try rfl) rfl ⟨rfl, hB⟩

set_option maxHeartbeats 16000000 in
theorem qAlu_10_true (a b : Tn) (w : World) (ha : mayS a = true) (hb : mayS b = true) :
    Calls Try.prog 6 #[.int .i64 10, .bool true, tv a, tv b] w fun e w' => e = .returned (.tuple #[tv (resS 10 true (cutK a (sizeW true)) (cutK b (sizeW true))), .int .i64 0]) ∧ Below w.heap.size w w' := by
  have lA : a.1.toNat ≤ a.2.toNat := by unfold mayS at ha; simpa using ha
  have lB : b.1.toNat ≤ b.2.toNat := by unfold mayS at hb; simpa using hb
  have mA : a.2.toNat < modW true := a.2.isLt
  have mB : b.2.toNat < modW true := b.2.isLt
  have HA := fun W => qMay_any a W
  have HC := fun W => qMay_any b W
  rw [ha] at HA
  rw [hb] at HC
  rw [show sizeW true = 64 from rfl, cut_all a ha, cut_all b hb]
  clear ha hb
  have HT := fun W => qTop_any 64 W (by decide)
  rw [show (1#64 <<< 64 - 1#64 : B64) = topW true by decide] at HT
  have HL := hid fun (want : Nat) W hw => qLeast_any 10 (· ^^^ ·) Sq.one_10 a b want W hw
  rw [show resS 10 true a b = bitwS 10 a b from rfl, ← Sq.bitw_doc10 a b lA lB]
  have HL0 := hid fun W => HL.out 0 W (by decide)
  have HL1 := hid fun W => HL.out 1 W (by decide)
  generalize oB (· ^^^ ·) a b 0 64 = R0 at *
  generalize oB (· ^^^ ·) a b 1 64 = R1 at *
  clear HL
  have I0 : AI w a b (((w.alloc (.cells #[.int .u64 (ub a.1), .int .u64 (ub a.2)] 24)).alloc (.cells #[.int .u64 (ub b.1), .int .u64 (ub b.2)] 24)).alloc (.cells #[.int .u64 0, .int .u64 0] 24)) := by
    refine ⟨((TB.new rfl).below ((Below.refl _ _).alloc (Nat.le_refl _) _)).below ((Below.refl _ _).alloc (Nat.le_refl _) _), (TB.new (by simp)).below ((Below.refl _ _).alloc (Nat.le_refl _) _), TB.new (a := t0) (by simp), (((Below.refl _ _).alloc (Nat.le_refl _) _).alloc (by simp) _).alloc (by simp; omega) _⟩
  have I1 := hid I0
  clear I0
  generalize topW true = T at *
  replace HT := hid HT
  replace HA := hid HA
  replace HC := hid HC
  unfold tv at *
  go_enter Try.func6, Try.ntmps6
  go_wp2_with fail
  refine (HA.out _).mono ?_
  rintro e w1 ⟨rfl, z⟩
  have I2 := hid (I1.out.next z)
  clear I1 z
  have q1 := I2.out.cb.1.2.1
  have q2 := I2.out.cb.1.2.2
  go_wp2_with fail
  refine (HC.out _).mono ?_
  rintro e w2 ⟨rfl, z⟩
  have I3 := hid (I2.out.next z)
  clear I2 z q1 q2 w1
  go_wp2_with fail
  refine (HT.out _).mono ?_
  rintro e w_ ⟨rfl, hw_⟩
  subst w_
  have I6 := hid (I3.out.next ((Below.refl _ _).alloc (Nat.le_refl _) (.cells #[.int .u64 0, .int .u64 (ub T)] 24)))
  have N1 : TC (w2.alloc (.cells #[.int .u64 0, .int .u64 (ub T)] 24)) w2.heap.size (0#64, T) := TC.new (a := (0#64, T)) rfl
  have NF := hid N1
  clear I3 N1
  go_wp2_with fail
  refine wp_region_held_drew (S := AJ w a b) (by kernel_rfl) ?_ (fun hHeld => ?_)
  · exact (I6.out.aj).next (below_dr _)
  have hA := hHeld
  refine tq 0 rfl (fun _ hS => by go_simp; try with_reducible rfl) ?_
  try simp only [s1, s2, s3]
  refine tq 1 rfl (fun _ hS => by have c0 := hS.1.1.2.1; have c1 := hS.1.1.2.2; go_simp; try with_reducible rfl) ?_
  try simp only [s1, s2, s3]
  refine tq 2 rfl (fun _ hS => by have c0 := hS.2.1.1.2.1; have c1 := hS.2.1.1.2.2; go_simp; try with_reducible rfl) ?_
  try simp only [s1, s2, s3]
  refine tq 4 rfl (fun _ hS => by go_simp; try with_reducible rfl) ?_
  try simp only [s1, s2, s3]
  refine tq 5 rfl (fun _ hS => by have c0 := hS.1.1.2.1; have c1 := hS.1.1.2.2; go_simp; try with_reducible rfl) ?_
  try simp only [s1, s2, s3]
  refine tq 6 rfl (fun _ hS => by have c0 := hS.2.1.1.2.1; have c1 := hS.2.1.1.2.2; go_simp; try with_reducible rfl) ?_
  try simp only [s1, s2, s3]
  refine wpAnyH_ready (rs := [3]) (by kernel_rfl) (by simp) ?_
  refine AllReadyH.cons rfl (fun K hK => ?_) AllReadyH.nil
  go_simp
  go_at_call 24
  refine (HL0.out _).mono ?_
  rintro e wr1 ⟨rfl, bkr1⟩
  have hAn := hA.next bkr1
  clear hA bkr1
  have hA := hAn
  clear hAn
  try go_simp
  refine hK.out _ _ ?_ (fun hHeld => ?_)
  · exact hA
  clear hK K
  (try simp only [Act.put, List.setIfInBounds_toArray, List.set_cons_zero, List.set_cons_succ])
  refine wpAnyH_ready (rs := [7]) (by kernel_rfl) (by simp) ?_
  refine AllReadyH.cons rfl (fun K hK => ?_) AllReadyH.nil
  go_simp
  go_at_call 24
  refine (HL1.out _).mono ?_
  rintro e wr2 ⟨rfl, bkr2⟩
  have hAn := hA.next bkr2
  clear hA bkr2
  have hA := hAn
  clear hAn
  try go_simp
  refine hK.out _ _ ?_ (fun hHeld => ?_)
  · exact hA
  clear hK K
  (try simp only [Act.put, List.setIfInBounds_toArray, List.set_cons_zero, List.set_cons_succ])
  refine tq 8 rfl (fun _ hS => by go_simp; try with_reducible rfl) ?_
  try simp only [s1, s2, s3]
  refine wpAnyH_ready (rs := [9]) (by kernel_rfl) (by simp) ?_
  refine AllReadyH.cons rfl (fun K hK => ?_) AllReadyH.nil
  have hA2 := hid hA
  obtain ⟨_, _, ⟨s, ⟨s0, s1, s2⟩, f1, f2⟩, _⟩ := hA
  go_simp
  refine hK.out _ _ ?_ (fun hHeld => ?_)
  · exact hA2.out.put _ _
  have hA := hHeld
  clear hK K
  (try simp only [Act.put, List.setIfInBounds_toArray, List.set_cons_zero, List.set_cons_succ])
  refine tq 10 rfl (fun _ hS => by go_simp; try with_reducible rfl) ?_
  try simp only [s1, s2, s3]
  refine wpAnyH_done (by kernel_rfl) ?_ _
  obtain ⟨s9, h9⟩ := hA2.out.2.2.1
  have r1 := (h9.put (R0, R1)).1.2.1
  have r2 := (h9.put (R0, R1)).1.2.2
  clear h9
  dsimp only at r1 r2
  have hB := hA.2.2.2
  clear hA hHeld hA2
  generalize (wr2.setCell ⟨w.heap.size + 1 + 1, 0, none⟩ (.int .u64 (ub R0))).setCell ⟨w.heap.size + 1 + 1, 1, none⟩ (.int .u64 (ub R1)) = w9 at *
  go_wp2_with fail
  exact bodyPost_ret (v := .tuple #[.agg #[.int .u64 (ub R0), .int .u64 (ub R1)], .int .i64 0]) (by simp [results, Try.results6, go_sem, r1, r2]; try rfl) rfl ⟨rfl, hB⟩

set_option maxHeartbeats 16000000 in
theorem qAlu_10_false (a b : Tn) (w : World) (ha : mayS a = true) (hb : mayS b = true) :
    Calls Try.prog 6 #[.int .i64 10, .bool false, tv a, tv b] w fun e w' => e = .returned (.tuple #[tv (resS 10 false (cutK a (sizeW false)) (cutK b (sizeW false))), .int .i64 0]) ∧ Below w.heap.size w w' := by
  have HA := fun W => qMay_any a W
  have HC := fun W => qMay_any b W
  rw [ha] at HA
  rw [hb] at HC
  have HX := fun W => qCut_any a 32 W
  have HY := fun W => qCut_any b 32 W
  rw [show clampN 32 = 32 from rfl] at HX HY
  rw [show sizeW false = 32 from rfl]
  obtain ⟨-, lA, mA⟩ := cut_nar a ha
  obtain ⟨-, lB, mB⟩ := cut_nar b hb
  generalize cutK a 32 = A at *
  generalize cutK b 32 = B at *
  replace HX := hid HX
  replace HY := hid HY
  clear ha hb
  have HT := fun W => qTop_any 32 W (by decide)
  rw [show (1#64 <<< 32 - 1#64 : B64) = topW false by decide] at HT
  have HL := hid fun (want : Nat) W hw => qLeast_any 10 (· ^^^ ·) Sq.one_10 A B want W hw
  rw [show resS 10 false A B = bitwS 10 A B from rfl, ← Sq.bitw_doc10 A B lA lB]
  have HL0 := hid fun W => HL.out 0 W (by decide)
  have HL1 := hid fun W => HL.out 1 W (by decide)
  generalize oB (· ^^^ ·) A B 0 64 = R0 at *
  generalize oB (· ^^^ ·) A B 1 64 = R1 at *
  clear HL
  have I0 : AI w a b (((w.alloc (.cells #[.int .u64 (ub a.1), .int .u64 (ub a.2)] 24)).alloc (.cells #[.int .u64 (ub b.1), .int .u64 (ub b.2)] 24)).alloc (.cells #[.int .u64 0, .int .u64 0] 24)) := by
    refine ⟨((TB.new rfl).below ((Below.refl _ _).alloc (Nat.le_refl _) _)).below ((Below.refl _ _).alloc (Nat.le_refl _) _), (TB.new (by simp)).below ((Below.refl _ _).alloc (Nat.le_refl _) _), TB.new (a := t0) (by simp), (((Below.refl _ _).alloc (Nat.le_refl _) _).alloc (by simp) _).alloc (by simp; omega) _⟩
  have I1 := hid I0
  clear I0
  generalize topW false = T at *
  replace HT := hid HT
  replace HA := hid HA
  replace HC := hid HC
  unfold tv at *
  go_enter Try.func6, Try.ntmps6
  go_wp2_with fail
  refine (HA.out _).mono ?_
  rintro e w1 ⟨rfl, z⟩
  have I2 := hid (I1.out.next z)
  clear I1 z
  have q1 := I2.out.cb.1.2.1
  have q2 := I2.out.cb.1.2.2
  go_wp2_with fail
  refine (HC.out _).mono ?_
  rintro e w2 ⟨rfl, z⟩
  have I3 := hid (I2.out.next z)
  clear I2 z q1 q2 w1
  have q1 := I3.out.ca.1.2.1
  have q2 := I3.out.ca.1.2.2
  go_wp2_with fail
  refine (HX.out _).mono ?_
  rintro e w3 ⟨rfl, z⟩
  have I4 := hid ((I3.out.next z).putA A)
  have IX := hid (I3.out.next z)
  clear I3 z q1 q2 w2
  have r0 := IX.out.ca.1.1
  have r1 := IX.out.ca.1.2.1
  have r2 := IX.out.ca.1.2.2
  have r3 := IX.out.ca.2.1
  have r4 := IX.out.ca.2.2
  have q1 := I4.out.cb.1.2.1
  have q2 := I4.out.cb.1.2.2
  go_wp2_with fail
  clear IX r0 r1 r2 r3 r4 q1 q2
  generalize (w3.setCell ⟨w.heap.size, 0, none⟩ (.int .u64 (ub A.1))).setCell ⟨w.heap.size, 1, none⟩ (.int .u64 (ub A.2)) = w3' at *
  refine (HY.out _).mono ?_
  rintro e w4 ⟨rfl, z⟩
  have I5 := hid ((I4.out.next z).putB B)
  have IX := hid (I4.out.next z)
  clear I4 z w3'
  have r0 := IX.out.cb.1.1
  have r1 := IX.out.cb.1.2.1
  have r2 := IX.out.cb.1.2.2
  have r3 := IX.out.cb.2.1
  have r4 := IX.out.cb.2.2
  go_wp2_with fail
  clear IX r0 r1 r2 r3 r4
  generalize (w4.setCell ⟨w.heap.size + 1, 0, none⟩ (.int .u64 (ub B.1))).setCell ⟨w.heap.size + 1, 1, none⟩ (.int .u64 (ub B.2)) = w2 at *
  have I3 := I5
  clear I5
  refine (HT.out _).mono ?_
  rintro e w_ ⟨rfl, hw_⟩
  subst w_
  have I6 := hid (I3.out.next ((Below.refl _ _).alloc (Nat.le_refl _) (.cells #[.int .u64 0, .int .u64 (ub T)] 24)))
  have N1 : TC (w2.alloc (.cells #[.int .u64 0, .int .u64 (ub T)] 24)) w2.heap.size (0#64, T) := TC.new (a := (0#64, T)) rfl
  have NF := hid N1
  clear I3 N1
  go_wp2_with fail
  refine wp_region_held_drew (S := AJ w A B) (by kernel_rfl) ?_ (fun hHeld => ?_)
  · exact (I6.out.aj).next (below_dr _)
  have hA := hHeld
  refine tq 0 rfl (fun _ hS => by go_simp; try with_reducible rfl) ?_
  try simp only [s1, s2, s3]
  refine tq 1 rfl (fun _ hS => by have c0 := hS.1.1.2.1; have c1 := hS.1.1.2.2; go_simp; try with_reducible rfl) ?_
  try simp only [s1, s2, s3]
  refine tq 2 rfl (fun _ hS => by have c0 := hS.2.1.1.2.1; have c1 := hS.2.1.1.2.2; go_simp; try with_reducible rfl) ?_
  try simp only [s1, s2, s3]
  refine tq 4 rfl (fun _ hS => by go_simp; try with_reducible rfl) ?_
  try simp only [s1, s2, s3]
  refine tq 5 rfl (fun _ hS => by have c0 := hS.1.1.2.1; have c1 := hS.1.1.2.2; go_simp; try with_reducible rfl) ?_
  try simp only [s1, s2, s3]
  refine tq 6 rfl (fun _ hS => by have c0 := hS.2.1.1.2.1; have c1 := hS.2.1.1.2.2; go_simp; try with_reducible rfl) ?_
  try simp only [s1, s2, s3]
  refine wpAnyH_ready (rs := [3]) (by kernel_rfl) (by simp) ?_
  refine AllReadyH.cons rfl (fun K hK => ?_) AllReadyH.nil
  go_simp
  go_at_call 24
  refine (HL0.out _).mono ?_
  rintro e wr1 ⟨rfl, bkr1⟩
  have hAn := hA.next bkr1
  clear hA bkr1
  have hA := hAn
  clear hAn
  try go_simp
  refine hK.out _ _ ?_ (fun hHeld => ?_)
  · exact hA
  clear hK K
  (try simp only [Act.put, List.setIfInBounds_toArray, List.set_cons_zero, List.set_cons_succ])
  refine wpAnyH_ready (rs := [7]) (by kernel_rfl) (by simp) ?_
  refine AllReadyH.cons rfl (fun K hK => ?_) AllReadyH.nil
  go_simp
  go_at_call 24
  refine (HL1.out _).mono ?_
  rintro e wr2 ⟨rfl, bkr2⟩
  have hAn := hA.next bkr2
  clear hA bkr2
  have hA := hAn
  clear hAn
  try go_simp
  refine hK.out _ _ ?_ (fun hHeld => ?_)
  · exact hA
  clear hK K
  (try simp only [Act.put, List.setIfInBounds_toArray, List.set_cons_zero, List.set_cons_succ])
  refine tq 8 rfl (fun _ hS => by go_simp; try with_reducible rfl) ?_
  try simp only [s1, s2, s3]
  refine wpAnyH_ready (rs := [9]) (by kernel_rfl) (by simp) ?_
  refine AllReadyH.cons rfl (fun K hK => ?_) AllReadyH.nil
  have hA2 := hid hA
  obtain ⟨_, _, ⟨s, ⟨s0, s1, s2⟩, f1, f2⟩, _⟩ := hA
  go_simp
  refine hK.out _ _ ?_ (fun hHeld => ?_)
  · exact hA2.out.put _ _
  have hA := hHeld
  clear hK K
  (try simp only [Act.put, List.setIfInBounds_toArray, List.set_cons_zero, List.set_cons_succ])
  refine tq 10 rfl (fun _ hS => by go_simp; try with_reducible rfl) ?_
  try simp only [s1, s2, s3]
  refine wpAnyH_done (by kernel_rfl) ?_ _
  obtain ⟨s9, h9⟩ := hA2.out.2.2.1
  have r1 := (h9.put (R0, R1)).1.2.1
  have r2 := (h9.put (R0, R1)).1.2.2
  clear h9
  dsimp only at r1 r2
  have hB := hA.2.2.2
  clear hA hHeld hA2
  generalize (wr2.setCell ⟨w.heap.size + 1 + 1, 0, none⟩ (.int .u64 (ub R0))).setCell ⟨w.heap.size + 1 + 1, 1, none⟩ (.int .u64 (ub R1)) = w9 at *
  go_wp2_with fail
  exact bodyPost_ret (v := .tuple #[.agg #[.int .u64 (ub R0), .int .u64 (ub R1)], .int .i64 0]) (by simp [results, Try.results6, go_sem, r1, r2]; try rfl) rfl ⟨rfl, hB⟩

end Go.Proofs.Ytjcnpjidkimldaa
