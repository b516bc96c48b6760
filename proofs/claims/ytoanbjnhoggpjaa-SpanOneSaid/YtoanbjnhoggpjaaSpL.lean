/-
  Contracts of the operations of spans, as the landed code has them.
-/
import Derived.Test.YtoanbjnhoggpjaaSpK
namespace Go.Proofs.Ytoanbjnhoggpjaa
set_option linter.unusedSimpArgs false
set_option linter.unusedVariables false
set_option maxRecDepth 100000
open Go.ChangeShapes Go.WideShapes Go.ChangeAt Go.RowKit

@[go_sem] theorem ub_neg (x : B64) : IntKind.u64.wrap (-(ub x)) = ub (0#64 - x) := by
  have h := ub_wsub 0#64 x
  rw [show ub 0#64 = 0 from rfl, Int.zero_sub] at h
  exact h
@[go_sem] theorem ub_neg1 (x : B64) : IntKind.u64.wrap (-1 * ub x) = ub (0#64 - x) := by rw [← ub_neg, Int.neg_one_mul]
set_option maxRecDepth 20000 in
set_option maxHeartbeats 4000000 in
theorem sRes0 (c : Bool) (a b : Tn) (w : World) : Calls Try.prog 97 #[.int .i64 0, .int .i64 (szI c), tv a, tv b] w fun e w' => e = .returned (tv (resS 0 c a b)) ∧ Below w.heap.size w w' := by
  have H := fun W => sSum_any c a b W
  rw [show resS 0 c a b = sumS c a b from rfl]
  generalize sumS c a b = R at *
  generalize szI c = SZ at *
  obtain ⟨v, m⟩ := a
  obtain ⟨v', m'⟩ := b
  unfold tv at H ⊢
  dsimp only at H ⊢
  replace H := hid H
  go_enter Try.func97, Try.ntmps97
  go_wp2_with fail
  refine (H.out _).mono ?_
  rintro e w1 ⟨rfl, b1⟩
  have hb : Below w.heap.size w w1 := ((((Below.refl _ _).alloc (Nat.le_refl _) _).alloc (by simp) _).alloc (by simp <;> omega) _).trans (b1.mono (by simp; omega))
  obtain ⟨hc1, hf1⟩ := bcell b1
  have hz1_0 : w.heap.size < w1.heap.size := by have := b1.size; simp at this; omega
  have hz1_1 : w.heap.size + 1 < w1.heap.size := by have := b1.size; simp at this; omega
  have hz1_2 : w.heap.size + 1 + 1 < w1.heap.size := by have := b1.size; simp at this; omega
  have HB1 := hid hb
  clear b1 hb
  go_wp2
  exact bodyPost_ret (v := tv R) (by simp [results, Try.results97, go_sem, hc1, hf1, hz1_0, hz1_1, hz1_2]; try rfl) rfl ⟨rfl, (HB1.out.setCell (by simp <;> omega) _).setCell (by simp <;> omega) _⟩
set_option maxRecDepth 20000 in
set_option maxHeartbeats 4000000 in
theorem sRes2 (c : Bool) (a b : Tn) (w : World) : Calls Try.prog 97 #[.int .i64 2, .int .i64 (szI c), tv a, tv b] w fun e w' => e = .returned (tv (resS 2 c a b)) ∧ Below w.heap.size w w' := by
  have H := fun W => sProd_any c a b W
  rw [show resS 2 c a b = prodS c a b from rfl]
  generalize prodS c a b = R at *
  generalize szI c = SZ at *
  obtain ⟨v, m⟩ := a
  obtain ⟨v', m'⟩ := b
  unfold tv at H ⊢
  dsimp only at H ⊢
  replace H := hid H
  go_enter Try.func97, Try.ntmps97
  go_wp2_with fail
  refine (H.out _).mono ?_
  rintro e w1 ⟨rfl, b1⟩
  have hb : Below w.heap.size w w1 := ((((Below.refl _ _).alloc (Nat.le_refl _) _).alloc (by simp) _).alloc (by simp <;> omega) _).trans (b1.mono (by simp; omega))
  obtain ⟨hc1, hf1⟩ := bcell b1
  have hz1_0 : w.heap.size < w1.heap.size := by have := b1.size; simp at this; omega
  have hz1_1 : w.heap.size + 1 < w1.heap.size := by have := b1.size; simp at this; omega
  have hz1_2 : w.heap.size + 1 + 1 < w1.heap.size := by have := b1.size; simp at this; omega
  have HB1 := hid hb
  clear b1 hb
  go_wp2
  exact bodyPost_ret (v := tv R) (by simp [results, Try.results97, go_sem, hc1, hf1, hz1_0, hz1_1, hz1_2]; try rfl) rfl ⟨rfl, (HB1.out.setCell (by simp <;> omega) _).setCell (by simp <;> omega) _⟩
set_option maxRecDepth 20000 in
set_option maxHeartbeats 4000000 in
theorem sRes3 (c : Bool) (a b : Tn) (w : World) : Calls Try.prog 97 #[.int .i64 3, .int .i64 (szI c), tv a, tv b] w fun e w' => e = .returned (tv (resS 3 c a b)) ∧ Below w.heap.size w w' := by
  have H := fun W => sQuot_any a b W
  rw [show resS 3 c a b = quotS a b from rfl]
  generalize quotS a b = R at *
  generalize szI c = SZ at *
  obtain ⟨v, m⟩ := a
  obtain ⟨v', m'⟩ := b
  unfold tv at H ⊢
  dsimp only at H ⊢
  replace H := hid H
  go_enter Try.func97, Try.ntmps97
  go_wp2_with fail
  refine (H.out _).mono ?_
  rintro e w1 ⟨rfl, b1⟩
  have hb : Below w.heap.size w w1 := ((((Below.refl _ _).alloc (Nat.le_refl _) _).alloc (by simp) _).alloc (by simp <;> omega) _).trans (b1.mono (by simp; omega))
  obtain ⟨hc1, hf1⟩ := bcell b1
  have hz1_0 : w.heap.size < w1.heap.size := by have := b1.size; simp at this; omega
  have hz1_1 : w.heap.size + 1 < w1.heap.size := by have := b1.size; simp at this; omega
  have hz1_2 : w.heap.size + 1 + 1 < w1.heap.size := by have := b1.size; simp at this; omega
  have HB1 := hid hb
  clear b1 hb
  go_wp2
  exact bodyPost_ret (v := tv R) (by simp [results, Try.results97, go_sem, hc1, hf1, hz1_0, hz1_1, hz1_2]; try rfl) rfl ⟨rfl, (HB1.out.setCell (by simp <;> omega) _).setCell (by simp <;> omega) _⟩
set_option maxRecDepth 20000 in
set_option maxHeartbeats 4000000 in
theorem sRes9 (c : Bool) (a b : Tn) (w : World) : Calls Try.prog 97 #[.int .i64 9, .int .i64 (szI c), tv a, tv b] w fun e w' => e = .returned (tv (resS 9 c a b)) ∧ Below w.heap.size w w' := by
  have H := fun W => sRest_any a b W
  rw [show resS 9 c a b = restS a b from rfl]
  generalize restS a b = R at *
  generalize szI c = SZ at *
  obtain ⟨v, m⟩ := a
  obtain ⟨v', m'⟩ := b
  unfold tv at H ⊢
  dsimp only at H ⊢
  replace H := hid H
  go_enter Try.func97, Try.ntmps97
  go_wp2_with fail
  refine (H.out _).mono ?_
  rintro e w1 ⟨rfl, b1⟩
  have hb : Below w.heap.size w w1 := ((((Below.refl _ _).alloc (Nat.le_refl _) _).alloc (by simp) _).alloc (by simp <;> omega) _).trans (b1.mono (by simp; omega))
  obtain ⟨hc1, hf1⟩ := bcell b1
  have hz1_0 : w.heap.size < w1.heap.size := by have := b1.size; simp at this; omega
  have hz1_1 : w.heap.size + 1 < w1.heap.size := by have := b1.size; simp at this; omega
  have hz1_2 : w.heap.size + 1 + 1 < w1.heap.size := by have := b1.size; simp at this; omega
  have HB1 := hid hb
  clear b1 hb
  go_wp2
  exact bodyPost_ret (v := tv R) (by simp [results, Try.results97, go_sem, hc1, hf1, hz1_0, hz1_1, hz1_2]; try rfl) rfl ⟨rfl, (HB1.out.setCell (by simp <;> omega) _).setCell (by simp <;> omega) _⟩
set_option maxRecDepth 20000 in
set_option maxHeartbeats 4000000 in
theorem sRes4 (c : Bool) (a b : Tn) (w : World) : Calls Try.prog 97 #[.int .i64 4, .int .i64 (szI c), tv a, tv b] w fun e w' => e = .returned (tv (resS 4 c a b)) ∧ Below w.heap.size w w' := by
  have H := fun W => sBitw_any 4 a b W (by decide)
  rw [show resS 4 c a b = bitwS 4 a b from rfl]
  generalize bitwS 4 a b = R at *
  generalize szI c = SZ at *
  obtain ⟨v, m⟩ := a
  obtain ⟨v', m'⟩ := b
  unfold tv at H ⊢
  dsimp only at H ⊢
  replace H := hid H
  go_enter Try.func97, Try.ntmps97
  go_wp2_with fail
  refine (H.out _).mono ?_
  rintro e w1 ⟨rfl, b1⟩
  have hb : Below w.heap.size w w1 := ((((Below.refl _ _).alloc (Nat.le_refl _) _).alloc (by simp) _).alloc (by simp <;> omega) _).trans (b1.mono (by simp; omega))
  obtain ⟨hc1, hf1⟩ := bcell b1
  have hz1_0 : w.heap.size < w1.heap.size := by have := b1.size; simp at this; omega
  have hz1_1 : w.heap.size + 1 < w1.heap.size := by have := b1.size; simp at this; omega
  have hz1_2 : w.heap.size + 1 + 1 < w1.heap.size := by have := b1.size; simp at this; omega
  have HB1 := hid hb
  clear b1 hb
  go_wp2
  exact bodyPost_ret (v := tv R) (by simp [results, Try.results97, go_sem, hc1, hf1, hz1_0, hz1_1, hz1_2]; try rfl) rfl ⟨rfl, (HB1.out.setCell (by simp <;> omega) _).setCell (by simp <;> omega) _⟩
set_option maxRecDepth 20000 in
set_option maxHeartbeats 4000000 in
theorem sRes5 (c : Bool) (a b : Tn) (w : World) : Calls Try.prog 97 #[.int .i64 5, .int .i64 (szI c), tv a, tv b] w fun e w' => e = .returned (tv (resS 5 c a b)) ∧ Below w.heap.size w w' := by
  have H := fun W => sBitw_any 5 a b W (by decide)
  rw [show resS 5 c a b = bitwS 5 a b from rfl]
  generalize bitwS 5 a b = R at *
  generalize szI c = SZ at *
  obtain ⟨v, m⟩ := a
  obtain ⟨v', m'⟩ := b
  unfold tv at H ⊢
  dsimp only at H ⊢
  replace H := hid H
  go_enter Try.func97, Try.ntmps97
  go_wp2_with fail
  refine (H.out _).mono ?_
  rintro e w1 ⟨rfl, b1⟩
  have hb : Below w.heap.size w w1 := ((((Below.refl _ _).alloc (Nat.le_refl _) _).alloc (by simp) _).alloc (by simp <;> omega) _).trans (b1.mono (by simp; omega))
  obtain ⟨hc1, hf1⟩ := bcell b1
  have hz1_0 : w.heap.size < w1.heap.size := by have := b1.size; simp at this; omega
  have hz1_1 : w.heap.size + 1 < w1.heap.size := by have := b1.size; simp at this; omega
  have hz1_2 : w.heap.size + 1 + 1 < w1.heap.size := by have := b1.size; simp at this; omega
  have HB1 := hid hb
  clear b1 hb
  go_wp2
  exact bodyPost_ret (v := tv R) (by simp [results, Try.results97, go_sem, hc1, hf1, hz1_0, hz1_1, hz1_2]; try rfl) rfl ⟨rfl, (HB1.out.setCell (by simp <;> omega) _).setCell (by simp <;> omega) _⟩
set_option maxRecDepth 20000 in
set_option maxHeartbeats 4000000 in
theorem sRes10 (c : Bool) (a b : Tn) (w : World) : Calls Try.prog 97 #[.int .i64 10, .int .i64 (szI c), tv a, tv b] w fun e w' => e = .returned (tv (resS 10 c a b)) ∧ Below w.heap.size w w' := by
  have H := fun W => sBitw_any 10 a b W (by decide)
  rw [show resS 10 c a b = bitwS 10 a b from rfl]
  generalize bitwS 10 a b = R at *
  generalize szI c = SZ at *
  obtain ⟨v, m⟩ := a
  obtain ⟨v', m'⟩ := b
  unfold tv at H ⊢
  dsimp only at H ⊢
  replace H := hid H
  go_enter Try.func97, Try.ntmps97
  go_wp2_with fail
  refine (H.out _).mono ?_
  rintro e w1 ⟨rfl, b1⟩
  have hb : Below w.heap.size w w1 := ((((Below.refl _ _).alloc (Nat.le_refl _) _).alloc (by simp) _).alloc (by simp <;> omega) _).trans (b1.mono (by simp; omega))
  obtain ⟨hc1, hf1⟩ := bcell b1
  have hz1_0 : w.heap.size < w1.heap.size := by have := b1.size; simp at this; omega
  have hz1_1 : w.heap.size + 1 < w1.heap.size := by have := b1.size; simp at this; omega
  have hz1_2 : w.heap.size + 1 + 1 < w1.heap.size := by have := b1.size; simp at this; omega
  have HB1 := hid hb
  clear b1 hb
  go_wp2
  exact bodyPost_ret (v := tv R) (by simp [results, Try.results97, go_sem, hc1, hf1, hz1_0, hz1_1, hz1_2]; try rfl) rfl ⟨rfl, (HB1.out.setCell (by simp <;> omega) _).setCell (by simp <;> omega) _⟩
set_option maxRecDepth 20000 in
set_option maxHeartbeats 4000000 in
theorem sRes11 (c : Bool) (a b : Tn) (w : World) : Calls Try.prog 97 #[.int .i64 11, .int .i64 (szI c), tv a, tv b] w fun e w' => e = .returned (tv (resS 11 c a b)) ∧ Below w.heap.size w w' := by
  rw [show resS 11 c a b = b from rfl]
  generalize szI c = SZ at *
  obtain ⟨v, m⟩ := a
  obtain ⟨v', m'⟩ := b
  unfold tv
  go_enter Try.func97, Try.ntmps97
  go_wp2
  exact bodyPost_ret (v := tv (v', m')) (by simp [results, Try.results97, go_sem]; try rfl) rfl ⟨rfl, ((((Below.refl _ _).alloc (Nat.le_refl _) _).alloc (by simp) _).alloc (by simp <;> omega) _)⟩
set_option maxRecDepth 20000 in
set_option maxHeartbeats 4000000 in
theorem sRes1 (c : Bool) (a b : Tn) (w : World) : Calls Try.prog 97 #[.int .i64 1, .int .i64 (szI c), tv a, tv b] w fun e w' => e = .returned (tv (resS 1 c a b)) ∧ Below w.heap.size w w' := by
  have H := fun W => sSum_any c a (negS b) W
  rw [show resS 1 c a b = sumS c a (negS b) from rfl]
  generalize sumS c a (negS b) = R at *
  generalize szI c = SZ at *
  unfold negS at H
  obtain ⟨v, m⟩ := a
  obtain ⟨v', m'⟩ := b
  unfold tv at H ⊢
  dsimp only at H ⊢
  replace H := hid H
  go_enter Try.func97, Try.ntmps97
  go_wp2_with fail
  refine (H.out _).mono ?_
  rintro e w1 ⟨rfl, b1⟩
  have hb : Below w.heap.size w w1 := ((((Below.refl _ _).alloc (Nat.le_refl _) _).alloc (by simp) _).alloc (by simp <;> omega) _).trans (b1.mono (by simp; omega))
  obtain ⟨hc1, hf1⟩ := bcell b1
  have hz1_0 : w.heap.size < w1.heap.size := by have := b1.size; simp at this; omega
  have hz1_1 : w.heap.size + 1 < w1.heap.size := by have := b1.size; simp at this; omega
  have hz1_2 : w.heap.size + 1 + 1 < w1.heap.size := by have := b1.size; simp at this; omega
  have HB1 := hid hb
  clear b1 hb
  go_wp2
  exact bodyPost_ret (v := tv R) (by simp [results, Try.results97, go_sem, hc1, hf1, hz1_0, hz1_1, hz1_2]; try rfl) rfl ⟨rfl, (HB1.out.setCell (by simp <;> omega) _).setCell (by simp <;> omega) _⟩
set_option maxRecDepth 20000 in
set_option maxHeartbeats 4000000 in
theorem sRes6 (c : Bool) (a b : Tn) (w : World) (hb : b.1.toNat ≤ b.2.toNat) : Calls Try.prog 97 #[.int .i64 6, .int .i64 (szI c), tv a, tv b] w fun e w' => e = .returned (tv (resS 6 c a b)) ∧ Below w.heap.size w w' := by
  obtain ⟨_, l2, l3⟩ := count_ok c b hb
  have hs := sizeW_le c
  have HC := fun W => sCounts_any c b W
  have HP := fun W => sPowers_any (countS c b) W (by omega) (by omega)
  rw [show resS 6 c a b = prodS c a (powS (countS c b)) from rfl]
  have HX := fun W => sProd_any c a (powS (countS c b)) W
  generalize prodS c a (powS (countS c b)) = R at *
  generalize powS (countS c b) = Q at *
  clear l2 l3 hb hs
  generalize countS c b = C at *
  generalize szI c = SZ at *
  unfold tv at HC HP HX ⊢
  replace HC := hid HC
  replace HP := hid HP
  replace HX := hid HX
  have I := RI.start w a b 26 26 26
  go_enter Try.func97, Try.ntmps97
  go_wp2_with fail
  refine (HC.out _).mono ?_
  rintro e w1 ⟨rfl, b1⟩
  replace I := I.next b1
  clear b1
  go_wp2_with fail
  refine (HP.out _).mono ?_
  rintro e w2 ⟨rfl, b2⟩
  replace I := I.next b2
  clear b2
  have p0 := I.ca.c0
  have p1 := I.ca.c1
  have p2 := I.cb.c0
  have p3 := I.cb.c1
  have p4 := I.cb.f0
  have p5 := I.cb.f1
  replace I := I.putb Q
  go_wp2_with fail
  refine (HX.out _).mono ?_
  rintro e w3 ⟨rfl, b3⟩
  replace I := I.next b3
  clear b3 p0 p1 p2 p3 p4 p5
  have r0 := I.rc.lt
  have r1 := I.rc.c0
  have r2 := I.rc.c1
  have r3 := I.rc.f0
  have r4 := I.rc.f1
  have HB := hid (put2_below R I.bel (by omega : w.heap.size ≤ w.heap.size + 1 + 1))
  clear I
  go_wp2
  exact bodyPost_ret (v := tv R) (by simp [results, Try.results97, go_sem, r0, r1, r2, r3, r4]; try rfl) rfl ⟨rfl, HB.out⟩
set_option maxRecDepth 20000 in
set_option maxHeartbeats 4000000 in
theorem sRes7 (c : Bool) (a b : Tn) (w : World) (hb : b.1.toNat ≤ b.2.toNat) : Calls Try.prog 97 #[.int .i64 7, .int .i64 (szI c), tv a, tv b] w fun e w' => e = .returned (tv (resS 7 c a b)) ∧ Below w.heap.size w w' := by
  obtain ⟨_, l2, l3⟩ := count_ok c b hb
  have hs := sizeW_le c
  have HC := fun W => sCounts_any c b W
  have HP := fun W => sPowers_any (countS c b) W (by omega) (by omega)
  rw [show resS 7 c a b = quotS a (powS (countS c b)) from rfl]
  have HX := fun W => sQuot_any a (powS (countS c b)) W
  generalize quotS a (powS (countS c b)) = R at *
  generalize powS (countS c b) = Q at *
  clear l2 l3 hb hs
  generalize countS c b = C at *
  generalize szI c = SZ at *
  unfold tv at HC HP HX ⊢
  replace HC := hid HC
  replace HP := hid HP
  replace HX := hid HX
  have I := RI.start w a b 26 26 26
  go_enter Try.func97, Try.ntmps97
  go_wp2_with fail
  refine (HC.out _).mono ?_
  rintro e w1 ⟨rfl, b1⟩
  replace I := I.next b1
  clear b1
  go_wp2_with fail
  refine (HP.out _).mono ?_
  rintro e w2 ⟨rfl, b2⟩
  replace I := I.next b2
  clear b2
  have p0 := I.ca.c0
  have p1 := I.ca.c1
  have p2 := I.cb.c0
  have p3 := I.cb.c1
  have p4 := I.cb.f0
  have p5 := I.cb.f1
  replace I := I.putb Q
  go_wp2_with fail
  refine (HX.out _).mono ?_
  rintro e w3 ⟨rfl, b3⟩
  replace I := I.next b3
  clear b3 p0 p1 p2 p3 p4 p5
  have r0 := I.rc.lt
  have r1 := I.rc.c0
  have r2 := I.rc.c1
  have r3 := I.rc.f0
  have r4 := I.rc.f1
  have HB := hid (put2_below R I.bel (by omega : w.heap.size ≤ w.heap.size + 1 + 1))
  clear I
  go_wp2
  exact bodyPost_ret (v := tv R) (by simp [results, Try.results97, go_sem, r0, r1, r2, r3, r4]; try rfl) rfl ⟨rfl, HB.out⟩
end Go.Proofs.Ytoanbjnhoggpjaa
