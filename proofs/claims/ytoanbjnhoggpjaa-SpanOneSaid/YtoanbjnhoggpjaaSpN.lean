/-
  Contract of Alu, as the landed code has it.
-/
import Derived.Test.YtoanbjnhoggpjaaSpM
namespace Go.Proofs.Ytoanbjnhoggpjaa
set_option linter.unusedSimpArgs false
set_option linter.unusedVariables false
set_option maxRecDepth 100000
open Go.ChangeShapes Go.WideShapes Go.ChangeAt Go.RowKit

theorem low_is (x : B64) (k : Nat) (hk : k ≤ 64) : (x &&& (1#64 <<< k - 1#64)).toNat = x.toNat % 2 ^ k := by
  rw [BitVec.toNat_and, toNat_low k hk]; exact Nat.and_two_pow_sub_one_eq_mod _ _
/-- What a span holds, cut to so many bits. -/
theorem cut_ok (s : Tn) (k : Nat) (hk : k ≤ 64) (h : s.1.toNat ≤ s.2.toNat) :
    (cutK s k).1.toNat ≤ (cutK s k).2.toNat ∧ (cutK s k).2.toNat < 2 ^ k ∧ ∀ x, Lies s x → Lies (cutK s k) (x % 2 ^ k) := by
  have hp := Nat.two_pow_pos k
  have hm : mayS s = true := decide_eq_true h
  unfold cutK
  rw [if_pos hm]
  by_cases e : s.1 &&& ~~~(1#64 <<< k - 1#64) = s.2 &&& ~~~(1#64 <<< k - 1#64)
  · rw [if_pos e]
    have e' := congrArg BitVec.toNat e
    rw [toNat_high _ _ hk, toNat_high _ _ hk] at e'
    have q : s.1.toNat / 2 ^ k = s.2.toNat / 2 ^ k := Nat.eq_of_mul_eq_mul_right hp e'
    unfold Lies
    dsimp only
    rw [low_is _ _ hk, low_is _ _ hk]
    have d1 := Nat.div_add_mod s.1.toNat (2 ^ k)
    have d2 := Nat.div_add_mod s.2.toNat (2 ^ k)
    rw [q] at d1
    refine ⟨by omega, Nat.mod_lt _ hp, fun x hx => ?_⟩
    have q1 : s.1.toNat / 2 ^ k ≤ x / 2 ^ k := Nat.div_le_div_right hx.1
    have q2 : x / 2 ^ k ≤ s.2.toNat / 2 ^ k := Nat.div_le_div_right hx.2
    have d3 := Nat.div_add_mod x (2 ^ k)
    rw [show x / 2 ^ k = s.2.toNat / 2 ^ k by omega] at d3
    omega
  · rw [if_neg e]
    unfold Lies
    dsimp only
    rw [toNat_low k hk]
    have z : (0#64 : B64).toNat = 0 := rfl
    rw [z]
    refine ⟨Nat.zero_le _, by omega, fun x hx => ⟨Nat.zero_le _, ?_⟩⟩
    have := Nat.mod_lt x hp
    omega
theorem modW_pow (c : Bool) : modW c = 2 ^ sizeW c := by cases c <;> rfl
def aluOk (op : Int) (a b : Tn) : Prop := 0 ≤ op ∧ op ≤ 12 ∧ mayS a = true ∧ mayS b = true
instance (op : Int) (a b : Tn) : Decidable (aluOk op a b) := by unfold aluOk; infer_instance
def aluT (op : Int) (c : Bool) (a b : Tn) : Tn := if aluOk op a b then resS op.toNat c (cutK a (sizeW c)) (cutK b (sizeW c)) else t0
def aluE (op : Int) (a b : Tn) : Int := if aluOk op a b then 0 else 1
theorem sCutW (c : Bool) (a : Tn) (w : World) : Calls Try.prog 98 #[tv a, .int .i64 (szI c)] w fun e w' => e = .returned (tv (cutK a (sizeW c))) ∧ Below w.heap.size w w' := by
  have h := sCut_any a (szI c) w
  rw [show clampN (szI c) = sizeW c by cases c <;> rfl] at h
  exact h
set_option maxRecDepth 20000 in
set_option maxHeartbeats 4000000 in
theorem sAlu_any (op : Int) (c : Bool) (a b : Tn) (w : World) : Calls Try.prog 35 #[.int .i64 op, .bool c, tv a, tv b] w fun e w' => e = .returned (.tuple #[tv (aluT op c a b), .int .i64 (aluE op a b)]) ∧ Below w.heap.size w w' := by
  have HA := fun W => sMay_any a W
  have HC := fun W => sMay_any b W
  by_cases h0 : op < 0
  ·
    have hn : ¬ aluOk op a b := by unfold aluOk; rintro ⟨x1, x2, x3, x4⟩; omega
    rw [show aluT op c a b = t0 from if_neg hn, show aluE op a b = 1 from if_neg hn]
    clear hn
    unfold tv
    go_enter Try.func35, Try.ntmps35
    go_wp2
    exact bodyPost_ret (v := .tuple #[tv t0, .int .i64 1]) (by simp [results, Try.results35, go_sem]; try rfl) rfl ⟨rfl, ((((Below.refl _ _).alloc (Nat.le_refl _) _).alloc (by simp) _).alloc (by simp <;> omega) _)⟩
  by_cases h1 : 12 < op
  ·
    have hn : ¬ aluOk op a b := by unfold aluOk; rintro ⟨x1, x2, x3, x4⟩; omega
    rw [show aluT op c a b = t0 from if_neg hn, show aluE op a b = 1 from if_neg hn]
    clear hn
    unfold tv
    go_enter Try.func35, Try.ntmps35
    go_wp2
    exact bodyPost_ret (v := .tuple #[tv t0, .int .i64 1]) (by simp [results, Try.results35, go_sem]; try rfl) rfl ⟨rfl, ((((Below.refl _ _).alloc (Nat.le_refl _) _).alloc (by simp) _).alloc (by simp <;> omega) _)⟩
  by_cases h2 : mayS a = true
  case neg =>
    have hn : ¬ aluOk op a b := by unfold aluOk; rintro ⟨x1, x2, x3, x4⟩; exact h2 x3
    rw [show aluT op c a b = t0 from if_neg hn, show aluE op a b = 1 from if_neg hn]
    clear hn
    rw [Bool.eq_false_iff.2 h2] at HA
    clear h2 HC
    unfold tv at HA ⊢
    replace HA := hid HA
    go_enter Try.func35, Try.ntmps35
    go_wp2_with fail
    refine (HA.out _).mono ?_
    rintro e w1 ⟨rfl, b1⟩
    have hb : Below w.heap.size w w1 := ((((Below.refl _ _).alloc (Nat.le_refl _) _).alloc (by simp) _).alloc (by simp <;> omega) _).trans (b1.mono (by simp; omega))
    obtain ⟨hc1, hf1⟩ := bcell b1
    have hz1_0 : w.heap.size < w1.heap.size := by have := b1.size; simp at this; omega
    have hz1_1 : w.heap.size + 1 < w1.heap.size := by have := b1.size; simp at this; omega
    have hz1_2 : w.heap.size + 1 + 1 < w1.heap.size := by have := b1.size; simp at this; omega
    have HB1 := hid hb
    clear b1 hb
    go_wp2
    exact bodyPost_ret (v := .tuple #[tv t0, .int .i64 1]) (by simp [results, Try.results35, go_sem, hc1, hf1, hz1_0, hz1_1, hz1_2]; try rfl) rfl ⟨rfl, (HB1.out.setCell (by simp <;> omega) _).setCell (by simp <;> omega) _⟩
  by_cases h3 : mayS b = true
  case neg =>
    have hn : ¬ aluOk op a b := by unfold aluOk; rintro ⟨x1, x2, x3, x4⟩; exact h3 x4
    rw [show aluT op c a b = t0 from if_neg hn, show aluE op a b = 1 from if_neg hn]
    clear hn
    rw [Bool.eq_false_iff.2 h3] at HC
    rw [h2] at HA
    clear h2 h3
    unfold tv at HA HC ⊢
    replace HA := hid HA
    replace HC := hid HC
    go_enter Try.func35, Try.ntmps35
    go_wp2_with fail
    refine (HA.out _).mono ?_
    rintro e w1 ⟨rfl, b1⟩
    have hb : Below w.heap.size w w1 := ((((Below.refl _ _).alloc (Nat.le_refl _) _).alloc (by simp) _).alloc (by simp <;> omega) _).trans (b1.mono (by simp; omega))
    obtain ⟨hc1, hf1⟩ := bcell b1
    have hz1_0 : w.heap.size < w1.heap.size := by have := b1.size; simp at this; omega
    have hz1_1 : w.heap.size + 1 < w1.heap.size := by have := b1.size; simp at this; omega
    have hz1_2 : w.heap.size + 1 + 1 < w1.heap.size := by have := b1.size; simp at this; omega
    have HB1 := hid hb
    clear b1 hb
    go_wp2_with fail
    refine (HC.out _).mono ?_
    rintro e w2 ⟨rfl, b2⟩
    have hb : Below w.heap.size w w2 := HB1.out.trans (b2.mono (by omega))
    obtain ⟨hc2, hf2⟩ := bcell b2
    have hz2_0 : w.heap.size < w2.heap.size := by have := b2.size; omega
    have hz2_1 : w.heap.size + 1 < w2.heap.size := by have := b2.size; omega
    have hz2_2 : w.heap.size + 1 + 1 < w2.heap.size := by have := b2.size; omega
    have HB2 := hid hb
    clear b2 hb
    go_wp2
    exact bodyPost_ret (v := .tuple #[tv t0, .int .i64 1]) (by simp [results, Try.results35, go_sem, hc1, hf1, hz1_0, hz1_1, hz1_2, hc2, hf2, hz2_0, hz2_1, hz2_2]; try rfl) rfl ⟨rfl, (HB2.out.setCell (by simp <;> omega) _).setCell (by simp <;> omega) _⟩
  have hok : aluOk op a b := ⟨by omega, by omega, h2, h3⟩
  rw [show aluT op c a b = resS op.toNat c (cutK a (sizeW c)) (cutK b (sizeW c)) from if_pos hok, show aluE op a b = 0 from if_pos hok]
  clear hok
  have X1 := fun W => sCutW c a W
  have X2 := fun W => sCutW c b W
  have X3 := fun W => sRes_any op.toNat (by omega) c (cutK a (sizeW c)) (cutK b (sizeW c)) W (cut_ok b _ (sizeW_le c) (of_decide_eq_true h3)).1
  rw [Int.toNat_of_nonneg (by omega)] at X3
  rw [h2] at HA
  rw [h3] at HC
  clear h2 h3
  generalize resS op.toNat c (cutK a (sizeW c)) (cutK b (sizeW c)) = R at *
  generalize cutK a (sizeW c) = A at *
  generalize cutK b (sizeW c) = B at *
  unfold tv at HA HC X1 X2 X3 ⊢
  replace HA := hid HA
  replace HC := hid HC
  have I0 := RI.start w a b 26 26 26
  cases c
  · rw [show szI false = 32 from rfl] at X1 X2 X3
    replace X1 := hid X1
    replace X2 := hid X2
    replace X3 := hid X3
    go_enter Try.func35, Try.ntmps35
    go_wp2_with fail
    refine (HA.out _).mono ?_
    rintro e w1 ⟨rfl, b1⟩
    have I1 := I0.next b1
    clear I0 b1
    have p0 := I1.ca.c0
    have p1 := I1.ca.c1
    have p2 := I1.cb.c0
    have p3 := I1.cb.c1
    have p4 : w.heap.size + 1 < w1.heap.size := I1.cb.lt
    go_wp2_with fail
    refine (HC.out _).mono ?_
    rintro e w0 ⟨rfl, b1⟩
    have I2 := I1.next b1
    clear I1 b1 p0 p1 p2 p3 p4
    have q0 := I2.ca.c0
    have q1 := I2.ca.c1
    have q2 := I2.cb.c0
    have q3 := I2.cb.c1
    have q4 := I2.res
    clear I2
    go_wp2_with fail
    go_region_held3 (fun w' => w'.cell? ⟨w.heap.size, 0, none⟩ = some (.int .u64 (ub a.1)) ∧ w'.cell? ⟨w.heap.size, 1, none⟩ = some (.int .u64 (ub a.2)) ∧ w'.cell? ⟨w.heap.size + 1, 0, none⟩ = some (.int .u64 (ub b.1)) ∧ w'.cell? ⟨w.heap.size + 1, 1, none⟩ = some (.int .u64 (ub b.2)) ∧ RsI w (w.heap.size + 1 + 1) w')
      (first
        | (go_split_ands; exact ⟨by with_reducible assumption, by with_reducible assumption, by with_reducible assumption, by with_reducible assumption, by with_reducible assumption⟩)
        | exact ⟨cn bq (by with_reducible assumption), cn bq (by with_reducible assumption), cn bq (by with_reducible assumption), cn bq (by with_reducible assumption), RsI.next (by with_reducible assumption) bq⟩
        | exact ⟨cn (below_dr w0) q0, cn (below_dr w0) q1, cn (below_dr w0) q2, cn (below_dr w0) q3, q4.next (below_dr w0)⟩
        | (go_split_ands; exact ⟨cs3 (by with_reducible assumption) (by dsimp only; omega), cs3 (by with_reducible assumption) (by dsimp only; omega), cs3 (by with_reducible assumption) (by dsimp only; omega), cs3 (by with_reducible assumption) (by dsimp only; omega), RsI.put (by with_reducible assumption) _ _⟩))
      (first | (go_at_call 98; go_split_ands; (with_reducible refine (X1.out _).mono ?_); rintro e wq ⟨rfl, bq⟩; have Rq := RsI.next (by with_reducible assumption) bq; have rq0 := Rq.lt; obtain ⟨cq0, rq1⟩ := Rq.c0; obtain ⟨cq1, rq2⟩ := Rq.c1; have rq3 := Rq.f0; have rq4 := Rq.f1; have aq0 := cn bq (by with_reducible assumption : _ = some (Value.int IntKind.u64 (ub a.1))); have aq1 := cn bq (by with_reducible assumption : _ = some (Value.int IntKind.u64 (ub a.2))); have aq2 := cn bq (by with_reducible assumption : _ = some (Value.int IntKind.u64 (ub b.1))); have aq3 := cn bq (by with_reducible assumption : _ = some (Value.int IntKind.u64 (ub b.2)))) | (go_at_call 98; go_split_ands; (with_reducible refine (X2.out _).mono ?_); rintro e wq ⟨rfl, bq⟩; have Rq := RsI.next (by with_reducible assumption) bq; have rq0 := Rq.lt; obtain ⟨cq0, rq1⟩ := Rq.c0; obtain ⟨cq1, rq2⟩ := Rq.c1; have rq3 := Rq.f0; have rq4 := Rq.f1; have aq0 := cn bq (by with_reducible assumption : _ = some (Value.int IntKind.u64 (ub a.1))); have aq1 := cn bq (by with_reducible assumption : _ = some (Value.int IntKind.u64 (ub a.2))); have aq2 := cn bq (by with_reducible assumption : _ = some (Value.int IntKind.u64 (ub b.1))); have aq3 := cn bq (by with_reducible assumption : _ = some (Value.int IntKind.u64 (ub b.2)))) | (go_at_call 97; go_split_ands; (with_reducible refine (X3.out _).mono ?_); rintro e wq ⟨rfl, bq⟩; have Rq := RsI.next (by with_reducible assumption) bq; have rq0 := Rq.lt; obtain ⟨cq0, rq1⟩ := Rq.c0; obtain ⟨cq1, rq2⟩ := Rq.c1; have rq3 := Rq.f0; have rq4 := Rq.f1; have aq0 := cn bq (by with_reducible assumption : _ = some (Value.int IntKind.u64 (ub a.1))); have aq1 := cn bq (by with_reducible assumption : _ = some (Value.int IntKind.u64 (ub a.2))); have aq2 := cn bq (by with_reducible assumption : _ = some (Value.int IntKind.u64 (ub b.1))); have aq3 := cn bq (by with_reducible assumption : _ = some (Value.int IntKind.u64 (ub b.2)))))
    go_split_ands
    have hle := Rq.le
    have HB := hid (Rq.put (ub R.1) (ub R.2)).bel
    clear Rq bq
    go_wp2
    exact bodyPost_ret (v := .tuple #[tv R, .int .i64 0]) (by simp [results, Try.results35, go_sem, rq0, rq1, rq2, rq3, rq4]; try rfl) rfl ⟨rfl, by simpa [go_sem] using HB.out⟩
  · rw [show szI true = 64 from rfl] at X1 X2 X3
    replace X1 := hid X1
    replace X2 := hid X2
    replace X3 := hid X3
    go_enter Try.func35, Try.ntmps35
    go_wp2_with fail
    refine (HA.out _).mono ?_
    rintro e w1 ⟨rfl, b1⟩
    have I1 := I0.next b1
    clear I0 b1
    have p0 := I1.ca.c0
    have p1 := I1.ca.c1
    have p2 := I1.cb.c0
    have p3 := I1.cb.c1
    have p4 : w.heap.size + 1 < w1.heap.size := I1.cb.lt
    go_wp2_with fail
    refine (HC.out _).mono ?_
    rintro e w0 ⟨rfl, b1⟩
    have I2 := I1.next b1
    clear I1 b1 p0 p1 p2 p3 p4
    have q0 := I2.ca.c0
    have q1 := I2.ca.c1
    have q2 := I2.cb.c0
    have q3 := I2.cb.c1
    have q4 := I2.res
    clear I2
    go_wp2_with fail
    go_region_held3 (fun w' => w'.cell? ⟨w.heap.size, 0, none⟩ = some (.int .u64 (ub a.1)) ∧ w'.cell? ⟨w.heap.size, 1, none⟩ = some (.int .u64 (ub a.2)) ∧ w'.cell? ⟨w.heap.size + 1, 0, none⟩ = some (.int .u64 (ub b.1)) ∧ w'.cell? ⟨w.heap.size + 1, 1, none⟩ = some (.int .u64 (ub b.2)) ∧ RsI w (w.heap.size + 1 + 1) w')
      (first
        | (go_split_ands; exact ⟨by with_reducible assumption, by with_reducible assumption, by with_reducible assumption, by with_reducible assumption, by with_reducible assumption⟩)
        | exact ⟨cn bq (by with_reducible assumption), cn bq (by with_reducible assumption), cn bq (by with_reducible assumption), cn bq (by with_reducible assumption), RsI.next (by with_reducible assumption) bq⟩
        | exact ⟨cn (below_dr w0) q0, cn (below_dr w0) q1, cn (below_dr w0) q2, cn (below_dr w0) q3, q4.next (below_dr w0)⟩
        | (go_split_ands; exact ⟨cs3 (by with_reducible assumption) (by dsimp only; omega), cs3 (by with_reducible assumption) (by dsimp only; omega), cs3 (by with_reducible assumption) (by dsimp only; omega), cs3 (by with_reducible assumption) (by dsimp only; omega), RsI.put (by with_reducible assumption) _ _⟩))
      (first | (go_at_call 98; go_split_ands; (with_reducible refine (X1.out _).mono ?_); rintro e wq ⟨rfl, bq⟩; have Rq := RsI.next (by with_reducible assumption) bq; have rq0 := Rq.lt; obtain ⟨cq0, rq1⟩ := Rq.c0; obtain ⟨cq1, rq2⟩ := Rq.c1; have rq3 := Rq.f0; have rq4 := Rq.f1; have aq0 := cn bq (by with_reducible assumption : _ = some (Value.int IntKind.u64 (ub a.1))); have aq1 := cn bq (by with_reducible assumption : _ = some (Value.int IntKind.u64 (ub a.2))); have aq2 := cn bq (by with_reducible assumption : _ = some (Value.int IntKind.u64 (ub b.1))); have aq3 := cn bq (by with_reducible assumption : _ = some (Value.int IntKind.u64 (ub b.2)))) | (go_at_call 98; go_split_ands; (with_reducible refine (X2.out _).mono ?_); rintro e wq ⟨rfl, bq⟩; have Rq := RsI.next (by with_reducible assumption) bq; have rq0 := Rq.lt; obtain ⟨cq0, rq1⟩ := Rq.c0; obtain ⟨cq1, rq2⟩ := Rq.c1; have rq3 := Rq.f0; have rq4 := Rq.f1; have aq0 := cn bq (by with_reducible assumption : _ = some (Value.int IntKind.u64 (ub a.1))); have aq1 := cn bq (by with_reducible assumption : _ = some (Value.int IntKind.u64 (ub a.2))); have aq2 := cn bq (by with_reducible assumption : _ = some (Value.int IntKind.u64 (ub b.1))); have aq3 := cn bq (by with_reducible assumption : _ = some (Value.int IntKind.u64 (ub b.2)))) | (go_at_call 97; go_split_ands; (with_reducible refine (X3.out _).mono ?_); rintro e wq ⟨rfl, bq⟩; have Rq := RsI.next (by with_reducible assumption) bq; have rq0 := Rq.lt; obtain ⟨cq0, rq1⟩ := Rq.c0; obtain ⟨cq1, rq2⟩ := Rq.c1; have rq3 := Rq.f0; have rq4 := Rq.f1; have aq0 := cn bq (by with_reducible assumption : _ = some (Value.int IntKind.u64 (ub a.1))); have aq1 := cn bq (by with_reducible assumption : _ = some (Value.int IntKind.u64 (ub a.2))); have aq2 := cn bq (by with_reducible assumption : _ = some (Value.int IntKind.u64 (ub b.1))); have aq3 := cn bq (by with_reducible assumption : _ = some (Value.int IntKind.u64 (ub b.2)))))
    go_split_ands
    have hle := Rq.le
    have HB := hid (Rq.put (ub R.1) (ub R.2)).bel
    clear Rq bq
    go_wp2
    exact bodyPost_ret (v := .tuple #[tv R, .int .i64 0]) (by simp [results, Try.results35, go_sem, rq0, rq1, rq2, rq3, rq4]; try rfl) rfl ⟨rfl, by simpa [go_sem] using HB.out⟩
end Go.Proofs.Ytoanbjnhoggpjaa
