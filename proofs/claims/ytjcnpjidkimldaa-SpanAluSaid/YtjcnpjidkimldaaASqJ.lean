/-
  Contract of the document's Alu of spans.
-/
import Derived.Test.YtjcnpjidkimldaaASqG
import Derived.Test.YtjcnpjidkimldaaASqH
import Derived.Test.YtjcnpjidkimldaaASqI
namespace Go.Proofs.Ytjcnpjidkimldaa
set_option linter.unusedSimpArgs false
set_option linter.unusedVariables false
set_option maxRecDepth 100000
set_option maxRecDepth 100000
open Go.ChangeShapes Go.WideShapes Go.ChangeAt Go.RowKit Sq

theorem qAlu_ok (k : Nat) (hk : k ≤ 12) (c : Bool) (a b : Tn) (w : World) (ha : mayS a = true) (hb : mayS b = true) :
    Calls Try.prog 6 #[.int .i64 (k : Int), .bool c, tv a, tv b] w fun e w' => e = .returned (.tuple #[tv (resS k c (cutK a (sizeW c)) (cutK b (sizeW c))), .int .i64 0]) ∧ Below w.heap.size w w' := by
  rcases (show k = 0 ∨ k = 1 ∨ k = 2 ∨ k = 3 ∨ k = 4 ∨ k = 5 ∨ k = 6 ∨ k = 7 ∨ k = 8 ∨ k = 9 ∨ k = 10 ∨ k = 11 ∨ k = 12 by omega) with rfl | rfl | rfl | rfl | rfl | rfl | rfl | rfl | rfl | rfl | rfl | rfl | rfl <;> cases c
  · exact qAlu_0_false a b w ha hb
  · exact qAlu_0_true a b w ha hb
  · exact qAlu_1_false a b w ha hb
  · exact qAlu_1_true a b w ha hb
  · exact qAlu_2_false a b w ha hb
  · exact qAlu_2_true a b w ha hb
  · exact qAlu_3_false a b w ha hb
  · exact qAlu_3_true a b w ha hb
  · exact qAlu_4_false a b w ha hb
  · exact qAlu_4_true a b w ha hb
  · exact qAlu_5_false a b w ha hb
  · exact qAlu_5_true a b w ha hb
  · exact qAlu_6_false a b w ha hb
  · exact qAlu_6_true a b w ha hb
  · exact qAlu_7_false a b w ha hb
  · exact qAlu_7_true a b w ha hb
  · exact qAlu_8_false a b w ha hb
  · exact qAlu_8_true a b w ha hb
  · exact qAlu_9_false a b w ha hb
  · exact qAlu_9_true a b w ha hb
  · exact qAlu_10_false a b w ha hb
  · exact qAlu_10_true a b w ha hb
  · exact qAlu_11_false a b w ha hb
  · exact qAlu_11_true a b w ha hb
  · exact qAlu_12_false a b w ha hb
  · exact qAlu_12_true a b w ha hb
set_option maxHeartbeats 4000000 in
theorem qAlu_bad (op : Int) (c : Bool) (a b : Tn) (w : World) (hn : ¬ aluOk op a b) :
    Calls Try.prog 6 #[.int .i64 op, .bool c, tv a, tv b] w fun e w' => e = .returned (.tuple #[tv t0, .int .i64 1]) ∧ Below w.heap.size w w' := by
  have HA := fun W => qMay_any a W
  have HC := fun W => qMay_any b W
  have I0 : AI w a b (((w.alloc (.cells #[.int .u64 (ub a.1), .int .u64 (ub a.2)] 24)).alloc (.cells #[.int .u64 (ub b.1), .int .u64 (ub b.2)] 24)).alloc (.cells #[.int .u64 0, .int .u64 0] 24)) := by
    refine ⟨((TB.new rfl).below ((Below.refl _ _).alloc (Nat.le_refl _) _)).below ((Below.refl _ _).alloc (Nat.le_refl _) _), (TB.new (by simp)).below ((Below.refl _ _).alloc (Nat.le_refl _) _), TB.new (a := t0) (by simp), (((Below.refl _ _).alloc (Nat.le_refl _) _).alloc (by simp) _).alloc (by simp; omega) _⟩
  have I1 := hid I0
  clear I0
  replace HA := hid HA
  replace HC := hid HC
  by_cases h0 : op < 0
  · clear hn HA HC I1
    unfold tv
    go_enter Try.func6, Try.ntmps6
    go_wp2_with fail
    exact bodyPost_ret (v := .tuple #[.agg #[.int .u64 0, .int .u64 0], .int .i64 1]) (by simp [results, Try.results6, go_sem]; try rfl) rfl ⟨rfl, (((Below.refl _ _).alloc (Nat.le_refl _) _).alloc (by simp) _).alloc (by simp; try omega) _⟩
  by_cases h1 : 12 < op
  · clear hn HA HC I1
    unfold tv
    go_enter Try.func6, Try.ntmps6
    go_wp2_with fail
    exact bodyPost_ret (v := .tuple #[.agg #[.int .u64 0, .int .u64 0], .int .i64 1]) (by simp [results, Try.results6, go_sem]; try rfl) rfl ⟨rfl, (((Below.refl _ _).alloc (Nat.le_refl _) _).alloc (by simp) _).alloc (by simp; try omega) _⟩
  unfold tv at *
  cases hma : mayS a
  · rw [hma] at HA
    clear hn hma HC
    go_enter Try.func6, Try.ntmps6
    go_wp2_with fail
    refine (HA.out _).mono ?_
    rintro e w1 ⟨rfl, z⟩
    have I2 := hid (I1.out.next z)
    clear I1 z
    have s0 := I2.out.res.1.1
    have s1 := I2.out.res.1.2.1
    have s2 := I2.out.res.1.2.2
    have f1 := I2.out.res.2.1
    have f2 := I2.out.res.2.2
    go_wp2_with fail
    exact bodyPost_ret (v := .tuple #[.agg #[.int .u64 0, .int .u64 0], .int .i64 1]) (by simp [results, Try.results6, go_sem, s0, s1, s2, f1, f2]; try rfl) rfl ⟨rfl, (I2.out.bel.setCell (by simp; try omega) _).setCell (by simp; try omega) _⟩
  · cases hmb : mayS b
    · rw [hma] at HA
      rw [hmb] at HC
      clear hn hma hmb
      go_enter Try.func6, Try.ntmps6
      go_wp2_with fail
      refine (HA.out _).mono ?_
      rintro e w1 ⟨rfl, z⟩
      have I2 := hid (I1.out.next z)
      clear I1 z
      have q1 := I2.out.cb.1.2.1
      have q2 := I2.out.cb.1.2.2
      go_wp2_with fail
      refine (HC.out _).mono ?_
      rintro e w2 ⟨rfl, z⟩
      have I3 := hid (I2.out.next z)
      clear I2 z q1 q2 w1
      have s0 := I3.out.res.1.1
      have s1 := I3.out.res.1.2.1
      have s2 := I3.out.res.1.2.2
      have f1 := I3.out.res.2.1
      have f2 := I3.out.res.2.2
      go_wp2_with fail
      exact bodyPost_ret (v := .tuple #[.agg #[.int .u64 0, .int .u64 0], .int .i64 1]) (by simp [results, Try.results6, go_sem, s0, s1, s2, f1, f2]; try rfl) rfl ⟨rfl, (I3.out.bel.setCell (by simp; try omega) _).setCell (by simp; try omega) _⟩
    · exact absurd ⟨by omega, by omega, hma, hmb⟩ hn
/-- The document's Alu is the code's. -/
theorem qAlu_any (op : Int) (c : Bool) (a b : Tn) (w : World) :
    Calls Try.prog 6 #[.int .i64 op, .bool c, tv a, tv b] w fun e w' => e = .returned (.tuple #[tv (aluT op c a b), .int .i64 (aluE op a b)]) ∧ Below w.heap.size w w' := by
  unfold aluT aluE
  by_cases h : aluOk op a b
  · rw [if_pos h, if_pos h]
    obtain ⟨h1, h2, h3, h4⟩ := h
    have e : op = ((op.toNat : Nat) : Int) := (Int.toNat_of_nonneg h1).symm
    have key := qAlu_ok op.toNat (by omega) c a b w h3 h4
    rw [← e] at key
    exact key
  · rw [if_neg h, if_neg h]
    exact qAlu_bad op c a b w h
end Go.Proofs.Ytjcnpjidkimldaa
