/-
  TnumOrder: the three may be: the walk, way by way.
-/
import Derived.Test.YtoanbjnhoggpjaaTnOa
namespace Go.Proofs.Ytoanbjnhoggpjaa
set_option linter.unusedSimpArgs false
set_option linter.unusedVariables false
open Go.ChangeShapes Go.WideShapes Go.ChangeAt Go.RowKit

set_option maxRecDepth 100000 in
set_option maxHeartbeats 8000000 in
theorem ord_p20 (a b c : Tn) (ha : tmay a = true) (hb : tmay b = true) (hc : tmay c = true) (hab : tin a b = true) (hba : tin b a = true) (hbc : tin b c = false) (w : World) : Calls Try.prog 11 #[tv a, tv b, tv c] w fun e w' => e = .returned (.bool true) ∧ Below w.heap.size w w' := by
  have HAW := hid awake_true
  have O := ord_of a b c ha hb hc
  have Ma : ∀ W, Calls Try.prog 43 #[tv a] W fun e w' => e = .returned (.bool true) ∧ Below W.heap.size W w' := fun W => ha ▸ tMay_any a W
  have Mb : ∀ W, Calls Try.prog 43 #[tv b] W fun e w' => e = .returned (.bool true) ∧ Below W.heap.size W w' := fun W => hb ▸ tMay_any b W
  have Mc : ∀ W, Calls Try.prog 43 #[tv c] W fun e w' => e = .returned (.bool true) ∧ Below W.heap.size W w' := fun W => hc ▸ tMay_any c W
  have XJ : ∀ W, Calls Try.prog 45 #[tv a, tv b] W fun e w' => e = .returned (.tuple #[tv (joinT a b), .int .i64 0]) ∧ Below W.heap.size W w' := fun W => by have := tJoin_any a b W; rwa [show bothT a b (joinT a b) = joinT a b by unfold bothT; rw [ha, hb]; rfl, show bothE a b = 0 by unfold bothE; rw [ha, hb]; rfl] at this
  have XM : ∀ W, Calls Try.prog 44 #[tv a, tv b] W fun e w' => e = .returned (.tuple #[tv (if meetB a b then meetT a b else t0), .bool (meetB a b)]) ∧ Below W.heap.size W w' := fun W => tMeet_any a b W
  have AL : ∀ W, Calls Try.prog 50 #[] W fun e w' => e = .returned (tv allT) ∧ Below W.heap.size W w' := fun W => tAll_any W
  have Iaa : ∀ W, Calls Try.prog 48 #[tv a, tv a] W fun e w' => e = .returned (.bool true) ∧ Below W.heap.size W w' := fun W => O.aa ▸ tIn_any a a W
  have Ial : ∀ W, Calls Try.prog 48 #[tv a, tv allT] W fun e w' => e = .returned (.bool true) ∧ Below W.heap.size W w' := fun W => O.al ▸ tIn_any a allT W
  have Iab : ∀ W, Calls Try.prog 48 #[tv a, tv b] W fun e w' => e = .returned (.bool true) ∧ Below W.heap.size W w' := fun W => hab ▸ tIn_any a b W
  have Iac : ∀ W, Calls Try.prog 48 #[tv a, tv c] W fun e w' => e = .returned (.bool (tin a c)) ∧ Below W.heap.size W w' := fun W => tIn_any a c W
  have Iaj : ∀ W, Calls Try.prog 48 #[tv a, tv (joinT a b)] W fun e w' => e = .returned (.bool true) ∧ Below W.heap.size W w' := fun W => O.aj ▸ tIn_any a (joinT a b) W
  have Ibj : ∀ W, Calls Try.prog 48 #[tv b, tv (joinT a b)] W fun e w' => e = .returned (.bool true) ∧ Below W.heap.size W w' := fun W => O.bj ▸ tIn_any b (joinT a b) W
  have Ijc : ∀ W, Calls Try.prog 48 #[tv (joinT a b), tv c] W fun e w' => e = .returned (.bool (tin (joinT a b) c)) ∧ Below W.heap.size W w' := fun W => tIn_any (joinT a b) c W
  have Ima : ∀ W, Calls Try.prog 48 #[tv (meetT a b), tv a] W fun e w' => e = .returned (.bool (tin (meetT a b) a)) ∧ Below W.heap.size W w' := fun W => tIn_any (meetT a b) a W
  have Imb : ∀ W, Calls Try.prog 48 #[tv (meetT a b), tv b] W fun e w' => e = .returned (.bool (tin (meetT a b) b)) ∧ Below W.heap.size W w' := fun W => tIn_any (meetT a b) b W
  have Ica : ∀ W, Calls Try.prog 48 #[tv c, tv a] W fun e w' => e = .returned (.bool (tin c a)) ∧ Below W.heap.size W w' := fun W => tIn_any c a W
  have Icb : ∀ W, Calls Try.prog 48 #[tv c, tv b] W fun e w' => e = .returned (.bool (tin c b)) ∧ Below W.heap.size W w' := fun W => tIn_any c b W
  have Icm : ∀ W, Calls Try.prog 48 #[tv c, tv (meetT a b)] W fun e w' => e = .returned (.bool (tin c (meetT a b))) ∧ Below W.heap.size W w' := fun W => tIn_any c (meetT a b) W
  have HL : ∀ W, Calls Try.prog 46 #[tv a, .int .u64 (ub a.1)] W fun e w' => e = .returned (.bool true) ∧ Below W.heap.size W w' := fun W => has_low ha ▸ tHas_any a a.1 W
  have HT : ∀ W, Calls Try.prog 46 #[tv a, .int .u64 (ub (a.1 ||| a.2))] W fun e w' => e = .returned (.bool true) ∧ Below W.heap.size W w' := fun W => has_top ha ▸ tHas_any a (a.1 ||| a.2) W
  have FR : ∀ W, Calls Try.prog 49 #[tv a] W fun e w' => e = .returned (.int .i64 (cntU a.2 64 : Int)) ∧ Below W.heap.size W w' := fun W => by have := tFree_any a W; rwa [ha, if_pos rfl] at this
  have Iba : ∀ W, Calls Try.prog 48 #[tv b, tv a] W fun e w' => e = .returned (.bool true) ∧ Below W.heap.size W w' := fun W => hba ▸ tIn_any b a W
  have Ibc : ∀ W, Calls Try.prog 48 #[tv b, tv c] W fun e w' => e = .returned (.bool false) ∧ Below W.heap.size W w' := fun W => hbc ▸ tIn_any b c W
  have hce : (((cntU a.2 64 : Nat) : Int) == 0) = (a.2 == 0#64) := by
    have := cnt_zero a.2
    rw [Bool.eq_iff_iff, beq_iff_eq, beq_iff_eq, ← this]
    omega
  have hEq : a = b := O.anti hab hba
  have tr := O.tr
  have jc := O.jc
  have mA := O.ma
  have mB := O.mb
  have cM := O.cm
  rw [hab] at tr
  rw [hbc] at tr jc
  clear O ha hb hc hab hba hbc
  generalize joinT a b = J at *
  generalize tin a c = ac at *
  generalize tin J c = jcB at *
  generalize ((cntU a.2 64 : Nat) : Int) = N at *
  generalize meetT a b = M0 at *
  generalize meetB a b = mk at *
  generalize tin M0 a = ma at *
  generalize tin M0 b = mb at *
  generalize tin c M0 = cm at *
  generalize tin c a = ca at *
  generalize tin c b = cb at *
  clear tr
  have hne : ∀ W : World, (binOp .neq 24 (.agg #[.int .u64 (ub a.1), .int .u64 (ub a.2)]) (.agg #[.int .u64 (ub b.1), .int .u64 (ub b.2)])).run Try.prog W = .ok (.bool false) W := by intro W; rw [← hEq]; go_simp
  clear hEq
  generalize allT = Y at *
  unfold tv at Ma Mb Mc XJ XM AL Iaa Ial Iab Iac Iaj Ibj Ijc Ima Imb Ica Icb Icm HL HT FR Iba Ibc ⊢
  replace Ma := hid Ma
  replace Mb := hid Mb
  replace Mc := hid Mc
  replace XJ := hid XJ
  replace XM := hid XM
  replace AL := hid AL
  replace Iaa := hid Iaa
  replace Ial := hid Ial
  replace Iab := hid Iab
  replace Iac := hid Iac
  replace Iaj := hid Iaj
  replace Ibj := hid Ibj
  replace Ijc := hid Ijc
  replace Ima := hid Ima
  replace Imb := hid Imb
  replace Ica := hid Ica
  replace Icb := hid Icb
  replace Icm := hid Icm
  replace HL := hid HL
  replace HT := hid HT
  replace FR := hid FR
  replace Iba := hid Iba
  replace Ibc := hid Ibc
  replace jc := hid jc
  replace mA := hid mA
  replace mB := hid mB
  replace cM := hid cM
  replace hce := hid hce
  go_enter Try.func11, Try.ntmps11
  go_wp2_with fail
  refine (HAW.out _).mono ?_
  rintro e w1 ⟨rfl, z⟩
  have JA : TC w1 w.heap.size a := ((TC.new rfl).alloc _ |>.alloc _).below z
  have JB : TC w1 (w.heap.size + 1) b := ((TC.new (by simp)).alloc _).below z
  have JC : TC w1 (w.heap.size + 1 + 1) c := (TC.new (by simp)).below z
  have B : Below w.heap.size w w1 := ((((Below.refl _ _).alloc (Nat.le_refl _) _).alloc (by simp) _).alloc (by simp; omega) _).trans (z.mono (by simp; omega))
  clear z
  have JA0 := JA.2.1
  have JA1 := JA.2.2
  have JAl := JA.1
  have JB0 := JB.2.1
  have JB1 := JB.2.2
  have JBl := JB.1
  have JC0 := JC.2.1
  have JC1 := JC.2.2
  have JCl := JC.1
  have lB := B.size
  go_wp2_with fail
  refine (Ma.out _).mono ?_
  rintro e w2 ⟨rfl, z⟩
  clear JA0 JA1 JAl JB0 JB1 JBl JC0 JC1 JCl lB
  replace JA := JA.below z
  replace JB := JB.below z
  replace JC := JC.below z
  replace B := below_next B z
  clear z
  have JA0 := JA.2.1
  have JA1 := JA.2.2
  have JAl := JA.1
  have JB0 := JB.2.1
  have JB1 := JB.2.2
  have JBl := JB.1
  have JC0 := JC.2.1
  have JC1 := JC.2.2
  have JCl := JC.1
  have lB := B.size
  go_wp2_with fail
  refine (Mb.out _).mono ?_
  rintro e w3 ⟨rfl, z⟩
  clear JA0 JA1 JAl JB0 JB1 JBl JC0 JC1 JCl lB
  replace JA := JA.below z
  replace JB := JB.below z
  replace JC := JC.below z
  replace B := below_next B z
  clear z
  have JA0 := JA.2.1
  have JA1 := JA.2.2
  have JAl := JA.1
  have JB0 := JB.2.1
  have JB1 := JB.2.2
  have JBl := JB.1
  have JC0 := JC.2.1
  have JC1 := JC.2.2
  have JCl := JC.1
  have lB := B.size
  go_wp2_with fail
  refine (Mc.out _).mono ?_
  rintro e w4 ⟨rfl, z⟩
  clear JA0 JA1 JAl JB0 JB1 JBl JC0 JC1 JCl lB
  replace JA := JA.below z
  replace JB := JB.below z
  replace JC := JC.below z
  replace B := below_next B z
  clear z
  have JA0 := JA.2.1
  have JA1 := JA.2.2
  have JAl := JA.1
  have JB0 := JB.2.1
  have JB1 := JB.2.2
  have JBl := JB.1
  have JC0 := JC.2.1
  have JC1 := JC.2.2
  have JCl := JC.1
  have lB := B.size
  go_wp2_with fail
  refine (XJ.out _).mono ?_
  rintro e w5 ⟨rfl, z⟩
  clear JA0 JA1 JAl JB0 JB1 JBl JC0 JC1 JCl lB
  replace JA := JA.below z
  replace JB := JB.below z
  replace JC := JC.below z
  replace B := below_next B z
  clear z
  have JA0 := JA.2.1
  have JA1 := JA.2.2
  have JAl := JA.1
  have JB0 := JB.2.1
  have JB1 := JB.2.2
  have JBl := JB.1
  have JC0 := JC.2.1
  have JC1 := JC.2.2
  have JCl := JC.1
  have lB := B.size
  go_wp2_with fail
  clear JA0 JA1 JAl JB0 JB1 JBl JC0 JC1 JCl lB
  have JJ : TC (w5.alloc (.cells #[.int .u64 (ub J.1), .int .u64 (ub J.2)] 24)) w5.heap.size J := TC.new rfl
  replace JA := JA.alloc (.cells #[.int .u64 (ub J.1), .int .u64 (ub J.2)] 24)
  replace JB := JB.alloc (.cells #[.int .u64 (ub J.1), .int .u64 (ub J.2)] 24)
  replace JC := JC.alloc (.cells #[.int .u64 (ub J.1), .int .u64 (ub J.2)] 24)
  replace B := Below.alloc B B.size (.cells #[.int .u64 (ub J.1), .int .u64 (ub J.2)] 24)
  generalize w5.alloc (.cells #[.int .u64 (ub J.1), .int .u64 (ub J.2)] 24) = w6 at *
  generalize w5.heap.size = g1 at *
  have JA0 := JA.2.1
  have JA1 := JA.2.2
  have JAl := JA.1
  have JB0 := JB.2.1
  have JB1 := JB.2.2
  have JBl := JB.1
  have JC0 := JC.2.1
  have JC1 := JC.2.2
  have JCl := JC.1
  have JJ0 := JJ.2.1
  have JJ1 := JJ.2.2
  have JJl := JJ.1
  have lB := B.size
  go_wp2_with fail
  refine wp_region_held_drew (S := (fun w' : World => Below w6.heap.size w6 w')) (by kernel_rfl) ?_ (fun hHeld => ?_)
  · (try dsimp only); first | (with_reducible exact below_dr _) | (with_reducible exact Below.refl _ _) | exact below_dr _
  have hBk := below_dr w6
  refine take_d (i := 0) (v := ?vordp20r1) rfl (by rfl) (by kernel_rfl) (by kernel_rfl) (by kernel_rfl) (fun _ _ _ h => h) (Or.inl ⟨by rfl, ?hordp20r1⟩) (by assumption) ?rordp20r1
  case hordp20r1 => (intro wS hSw; (try dsimp only at hSw); go_simp; try (with_reducible rfl))
  (try simp only [Act.put, List.setIfInBounds_toArray, List.set_cons_zero, List.set_cons_succ])
  refine take_d (i := 1) (v := ?vordp20r2) rfl (by rfl) (by kernel_rfl) (by kernel_rfl) (by kernel_rfl) (fun _ _ _ h => h) (Or.inl ⟨by rfl, ?hordp20r2⟩) (by assumption) ?rordp20r2
  case hordp20r2 => (intro wS hSw; (try dsimp only at hSw); go_simp; try (with_reducible rfl))
  (try simp only [Act.put, List.setIfInBounds_toArray, List.set_cons_zero, List.set_cons_succ])
  refine take_d (i := 2) (v := ?vordp20r3) rfl (by rfl) (by kernel_rfl) (by kernel_rfl) (by kernel_rfl) (fun _ _ _ h => h) (Or.inl ⟨by rfl, ?hordp20r3⟩) (by assumption) ?rordp20r3
  case hordp20r3 => (intro wS hSw; (try dsimp only at hSw); go_simp; try (with_reducible rfl))
  (try simp only [Act.put, List.setIfInBounds_toArray, List.set_cons_zero, List.set_cons_succ])
  refine take_d (i := 3) (v := ?vordp20r4) rfl (by rfl) (by kernel_rfl) (by kernel_rfl) (by kernel_rfl) (fun _ _ _ h => h) (Or.inl ⟨by rfl, ?hordp20r4⟩) (by assumption) ?rordp20r4
  case hordp20r4 => (intro wS hSw; (try dsimp only at hSw); have hcq0 := cn hSw JA0; have hcq1 := cn hSw JA1; go_simp; try (with_reducible rfl))
  (try simp only [Act.put, List.setIfInBounds_toArray, List.set_cons_zero, List.set_cons_succ])
  refine take_d (i := 4) (v := ?vordp20r5) rfl (by rfl) (by kernel_rfl) (by kernel_rfl) (by kernel_rfl) (fun _ _ _ h => h) (Or.inl ⟨by rfl, ?hordp20r5⟩) (by assumption) ?rordp20r5
  case hordp20r5 => (intro wS hSw; (try dsimp only at hSw); have hcq0 := cn hSw JA0; have hcq1 := cn hSw JA1; go_simp; try (with_reducible rfl))
  (try simp only [Act.put, List.setIfInBounds_toArray, List.set_cons_zero, List.set_cons_succ])
  refine wpAnyH_ready (rs := [5]) (by kernel_rfl) (by simp) ?_
  refine AllReadyH.cons rfl (fun K hK => ?_) AllReadyH.nil
  go_simp
  go_at_call 48
  refine (Iaa.out _).mono ?_
  rintro e wordp20r6 ⟨rfl, bkordp20r6⟩
  have hBn := below_next hBk bkordp20r6
  clear hBk bkordp20r6
  have hBk := hBn
  clear hBn
  try go_simp
  refine hK.out _ _ ?_ (fun hHeld => ?_)
  · (try dsimp only); exact hBk
  clear hK K
  (try simp only [Act.put, List.setIfInBounds_toArray, List.set_cons_zero, List.set_cons_succ])
  refine take_d (i := 6) (v := ?vordp20r7) rfl (by rfl) (by kernel_rfl) (by kernel_rfl) (by kernel_rfl) (fun _ _ _ h => h) (Or.inl ⟨by rfl, ?hordp20r7⟩) (by assumption) ?rordp20r7
  case hordp20r7 => (intro wS hSw; (try dsimp only at hSw); go_simp; try (with_reducible rfl))
  (try simp only [Act.put, List.setIfInBounds_toArray, List.set_cons_zero, List.set_cons_succ])
  refine take_d (i := 7) (v := ?vordp20r8) rfl (by rfl) (by kernel_rfl) (by kernel_rfl) (by kernel_rfl) (fun _ _ _ h => h) (Or.inl ⟨by rfl, ?hordp20r8⟩) (by assumption) ?rordp20r8
  case hordp20r8 => (intro wS hSw; (try dsimp only at hSw); go_simp; try (with_reducible rfl))
  (try simp only [Act.put, List.setIfInBounds_toArray, List.set_cons_zero, List.set_cons_succ])
  refine take_d (i := 8) (v := ?vordp20r9) rfl (by rfl) (by kernel_rfl) (by kernel_rfl) (by kernel_rfl) (fun _ _ _ h => h) (Or.inl ⟨by rfl, ?hordp20r9⟩) (by assumption) ?rordp20r9
  case hordp20r9 => (intro wS hSw; (try dsimp only at hSw); go_simp; try (with_reducible rfl))
  (try simp only [Act.put, List.setIfInBounds_toArray, List.set_cons_zero, List.set_cons_succ])
  refine take_d (i := 9) (v := ?vordp20r10) rfl (by rfl) (by kernel_rfl) (by kernel_rfl) (by kernel_rfl) (fun _ _ _ h => h) (Or.inl ⟨by rfl, ?hordp20r10⟩) (by assumption) ?rordp20r10
  case hordp20r10 => (intro wS hSw; (try dsimp only at hSw); have hcq0 := cn hSw JA0; have hcq1 := cn hSw JA1; go_simp; try (with_reducible rfl))
  (try simp only [Act.put, List.setIfInBounds_toArray, List.set_cons_zero, List.set_cons_succ])
  refine wpAnyH_ready (rs := [10]) (by kernel_rfl) (by simp) ?_
  refine AllReadyH.cons rfl (fun K hK => ?_) AllReadyH.nil
  go_simp
  go_at_call 50
  refine (AL.out _).mono ?_
  rintro e wordp20r11 ⟨rfl, bkordp20r11⟩
  have hBn := below_next hBk bkordp20r11
  clear hBk bkordp20r11
  have hBk := hBn
  clear hBn
  try go_simp
  refine hK.out _ _ ?_ (fun hHeld => ?_)
  · (try dsimp only); exact hBk
  clear hK K
  (try simp only [Act.put, List.setIfInBounds_toArray, List.set_cons_zero, List.set_cons_succ])
  refine wpAnyH_ready (rs := [11]) (by kernel_rfl) (by simp) ?_
  refine AllReadyH.cons rfl (fun K hK => ?_) AllReadyH.nil
  go_simp
  go_at_call 48
  refine (Ial.out _).mono ?_
  rintro e wordp20r12 ⟨rfl, bkordp20r12⟩
  have hBn := below_next hBk bkordp20r12
  clear hBk bkordp20r12
  have hBk := hBn
  clear hBn
  try go_simp
  refine hK.out _ _ ?_ (fun hHeld => ?_)
  · (try dsimp only); exact hBk
  clear hK K
  (try simp only [Act.put, List.setIfInBounds_toArray, List.set_cons_zero, List.set_cons_succ])
  refine take_d (i := 12) (v := ?vordp20r13) rfl (by rfl) (by kernel_rfl) (by kernel_rfl) (by kernel_rfl) (fun _ _ _ h => h) (Or.inl ⟨by rfl, ?hordp20r13⟩) (by assumption) ?rordp20r13
  case hordp20r13 => (intro wS hSw; (try dsimp only at hSw); go_simp; try (with_reducible rfl))
  (try simp only [Act.put, List.setIfInBounds_toArray, List.set_cons_zero, List.set_cons_succ])
  refine take_d (i := 13) (v := ?vordp20r14) rfl (by rfl) (by kernel_rfl) (by kernel_rfl) (by kernel_rfl) (fun _ _ _ h => h) (Or.inl ⟨by rfl, ?hordp20r14⟩) (by assumption) ?rordp20r14
  case hordp20r14 => (intro wS hSw; (try dsimp only at hSw); go_simp; try (with_reducible rfl))
  (try simp only [Act.put, List.setIfInBounds_toArray, List.set_cons_zero, List.set_cons_succ])
  refine take_d (i := 14) (v := ?vordp20r15) rfl (by rfl) (by kernel_rfl) (by kernel_rfl) (by kernel_rfl) (fun _ _ _ h => h) (Or.inl ⟨by rfl, ?hordp20r15⟩) (by assumption) ?rordp20r15
  case hordp20r15 => (intro wS hSw; (try dsimp only at hSw); go_simp; try (with_reducible rfl))
  (try simp only [Act.put, List.setIfInBounds_toArray, List.set_cons_zero, List.set_cons_succ])
  refine take_d (i := 15) (v := ?vordp20r16) rfl (by rfl) (by kernel_rfl) (by kernel_rfl) (by kernel_rfl) (fun _ _ _ h => h) (Or.inl ⟨by rfl, ?hordp20r16⟩) (by assumption) ?rordp20r16
  case hordp20r16 => (intro wS hSw; (try dsimp only at hSw); have hcq0 := cn hSw JA0; have hcq1 := cn hSw JA1; go_simp; try (with_reducible rfl))
  (try simp only [Act.put, List.setIfInBounds_toArray, List.set_cons_zero, List.set_cons_succ])
  refine take_d (i := 16) (v := ?vordp20r17) rfl (by rfl) (by kernel_rfl) (by kernel_rfl) (by kernel_rfl) (fun _ _ _ h => h) (Or.inl ⟨by rfl, ?hordp20r17⟩) (by assumption) ?rordp20r17
  case hordp20r17 => (intro wS hSw; (try dsimp only at hSw); have hcq0 := cn hSw JB0; have hcq1 := cn hSw JB1; go_simp; try (with_reducible rfl))
  (try simp only [Act.put, List.setIfInBounds_toArray, List.set_cons_zero, List.set_cons_succ])
  refine wpAnyH_ready (rs := [17]) (by kernel_rfl) (by simp) ?_
  refine AllReadyH.cons rfl (fun K hK => ?_) AllReadyH.nil
  go_simp
  go_at_call 48
  refine (Iab.out _).mono ?_
  rintro e wordp20r18 ⟨rfl, bkordp20r18⟩
  have hBn := below_next hBk bkordp20r18
  clear hBk bkordp20r18
  have hBk := hBn
  clear hBn
  try go_simp
  refine hK.out _ _ ?_ (fun hHeld => ?_)
  · (try dsimp only); exact hBk
  clear hK K
  (try simp only [Act.put, List.setIfInBounds_toArray, List.set_cons_zero, List.set_cons_succ])
  refine take_d (i := 18) (v := ?vordp20r19) rfl (by rfl) (by kernel_rfl) (by kernel_rfl) (by kernel_rfl) (fun _ _ _ h => h) (Or.inl ⟨by rfl, ?hordp20r19⟩) (by assumption) ?rordp20r19
  case hordp20r19 => (intro wS hSw; (try dsimp only at hSw); go_simp; try (with_reducible rfl))
  (try simp only [Act.put, List.setIfInBounds_toArray, List.set_cons_zero, List.set_cons_succ])
  refine take_d (i := 19) (v := ?vordp20r20) rfl (by rfl) (by kernel_rfl) (by kernel_rfl) (by kernel_rfl) (fun _ _ _ h => h) (Or.inl ⟨by rfl, ?hordp20r20⟩) (by assumption) ?rordp20r20
  case hordp20r20 => (intro wS hSw; (try dsimp only at hSw); have hcq0 := cn hSw JB0; have hcq1 := cn hSw JB1; go_simp; try (with_reducible rfl))
  (try simp only [Act.put, List.setIfInBounds_toArray, List.set_cons_zero, List.set_cons_succ])
  refine take_d (i := 20) (v := ?vordp20r21) rfl (by rfl) (by kernel_rfl) (by kernel_rfl) (by kernel_rfl) (fun _ _ _ h => h) (Or.inl ⟨by rfl, ?hordp20r21⟩) (by assumption) ?rordp20r21
  case hordp20r21 => (intro wS hSw; (try dsimp only at hSw); have hcq0 := cn hSw JA0; have hcq1 := cn hSw JA1; go_simp; try (with_reducible rfl))
  (try simp only [Act.put, List.setIfInBounds_toArray, List.set_cons_zero, List.set_cons_succ])
  refine wpAnyH_ready (rs := [21]) (by kernel_rfl) (by simp) ?_
  refine AllReadyH.cons rfl (fun K hK => ?_) AllReadyH.nil
  go_simp
  go_at_call 48
  refine (Iba.out _).mono ?_
  rintro e wordp20r22 ⟨rfl, bkordp20r22⟩
  have hBn := below_next hBk bkordp20r22
  clear hBk bkordp20r22
  have hBk := hBn
  clear hBn
  try go_simp
  refine hK.out _ _ ?_ (fun hHeld => ?_)
  · (try dsimp only); exact hBk
  clear hK K
  (try simp only [Act.put, List.setIfInBounds_toArray, List.set_cons_zero, List.set_cons_succ])
  refine take_d (i := 22) (v := ?vordp20r23) rfl (by rfl) (by kernel_rfl) (by kernel_rfl) (by kernel_rfl) (fun _ _ _ h => h) (Or.inl ⟨by rfl, ?hordp20r23⟩) (by assumption) ?rordp20r23
  case hordp20r23 => (intro wS hSw; (try dsimp only at hSw); go_simp; try (with_reducible rfl))
  (try simp only [Act.put, List.setIfInBounds_toArray, List.set_cons_zero, List.set_cons_succ])
  refine take_d (i := 23) (v := ?vordp20r24) rfl (by rfl) (by kernel_rfl) (by kernel_rfl) (by kernel_rfl) (fun _ _ _ h => h) (Or.inl ⟨by rfl, ?hordp20r24⟩) (by assumption) ?rordp20r24
  case hordp20r24 => (intro wS hSw; (try dsimp only at hSw); go_simp; try (with_reducible rfl))
  (try simp only [Act.put, List.setIfInBounds_toArray, List.set_cons_zero, List.set_cons_succ])
  refine take_d (i := 24) (v := ?vordp20r25) rfl (by rfl) (by kernel_rfl) (by kernel_rfl) (by kernel_rfl) (fun _ _ _ h => h) (Or.inl ⟨by rfl, ?hordp20r25⟩) (by assumption) ?rordp20r25
  case hordp20r25 => (intro wS hSw; (try dsimp only at hSw); have hcq0 := cn hSw JA0; have hcq1 := cn hSw JA1; go_simp; try (with_reducible rfl))
  (try simp only [Act.put, List.setIfInBounds_toArray, List.set_cons_zero, List.set_cons_succ])
  refine take_d (i := 25) (v := ?vordp20r26) rfl (by rfl) (by kernel_rfl) (by kernel_rfl) (by kernel_rfl) (fun _ _ _ h => h) (Or.inl ⟨by rfl, ?hordp20r26⟩) (by assumption) ?rordp20r26
  case hordp20r26 => (intro wS hSw; (try dsimp only at hSw); have hcq0 := cn hSw JB0; have hcq1 := cn hSw JB1; go_simp; try (with_reducible rfl))
  (try simp only [Act.put, List.setIfInBounds_toArray, List.set_cons_zero, List.set_cons_succ])
  refine take_d (i := 26) (v := ?vordp20r27) rfl (by rfl) (by kernel_rfl) (by kernel_rfl) (by kernel_rfl) (fun _ _ _ h => h) (Or.inl ⟨by rfl, ?hordp20r27⟩) (by assumption) ?rordp20r27
  case hordp20r27 => (intro wS hSw; (try dsimp only at hSw); go_simp; try (with_reducible rfl))
  (try simp only [Act.put, List.setIfInBounds_toArray, List.set_cons_zero, List.set_cons_succ])
  refine take_d (i := 27) (v := ?vordp20r28) rfl (by rfl) (by kernel_rfl) (by kernel_rfl) (by kernel_rfl) (fun _ _ _ h => h) (Or.inl ⟨by rfl, ?hordp20r28⟩) (by assumption) ?rordp20r28
  case hordp20r28 => (intro wS hSw; (try dsimp only at hSw); go_simp; try (with_reducible rfl))
  (try simp only [Act.put, List.setIfInBounds_toArray, List.set_cons_zero, List.set_cons_succ])
  refine take_d (i := 28) (v := ?vordp20r29) rfl (by rfl) (by kernel_rfl) (by kernel_rfl) (by kernel_rfl) (fun _ _ _ h => h) (Or.inl ⟨by rfl, ?hordp20r29⟩) (by assumption) ?rordp20r29
  case hordp20r29 => (intro wS hSw; (try dsimp only at hSw); go_simp; try (with_reducible rfl))
  (try simp only [Act.put, List.setIfInBounds_toArray, List.set_cons_zero, List.set_cons_succ])
  refine take_d (i := 29) (v := ?vordp20r30) rfl (by rfl) (by kernel_rfl) (by kernel_rfl) (by kernel_rfl) (fun _ _ _ h => h) (Or.inl ⟨by rfl, ?hordp20r30⟩) (by assumption) ?rordp20r30
  case hordp20r30 => (intro wS hSw; (try dsimp only at hSw); go_simp; try (with_reducible rfl))
  (try simp only [Act.put, List.setIfInBounds_toArray, List.set_cons_zero, List.set_cons_succ])
  refine take_d (i := 30) (v := ?vordp20r31) rfl (by rfl) (by kernel_rfl) (by kernel_rfl) (by kernel_rfl) (fun _ _ _ h => h) (Or.inl ⟨by rfl, ?hordp20r31⟩) (by assumption) ?rordp20r31
  case hordp20r31 => (intro wS hSw; (try dsimp only at hSw); have hcq0 := cn hSw JA0; have hcq1 := cn hSw JA1; go_simp; try (with_reducible rfl))
  (try simp only [Act.put, List.setIfInBounds_toArray, List.set_cons_zero, List.set_cons_succ])
  refine take_d (i := 31) (v := ?vordp20r32) rfl (by rfl) (by kernel_rfl) (by kernel_rfl) (by kernel_rfl) (fun _ _ _ h => h) (Or.inl ⟨by rfl, ?hordp20r32⟩) (by assumption) ?rordp20r32
  case hordp20r32 => (intro wS hSw; (try dsimp only at hSw); have hcq0 := cn hSw JB0; have hcq1 := cn hSw JB1; go_simp; try (with_reducible rfl))
  (try simp only [Act.put, List.setIfInBounds_toArray, List.set_cons_zero, List.set_cons_succ])
  refine wpAnyH_ready (rs := [32]) (by kernel_rfl) (by simp) ?_
  refine AllReadyH.cons rfl (fun K hK => ?_) AllReadyH.nil
  go_simp
  go_at_call 48
  refine (Iab.out _).mono ?_
  rintro e wordp20r33 ⟨rfl, bkordp20r33⟩
  have hBn := below_next hBk bkordp20r33
  clear hBk bkordp20r33
  have hBk := hBn
  clear hBn
  try go_simp
  refine hK.out _ _ ?_ (fun hHeld => ?_)
  · (try dsimp only); exact hBk
  clear hK K
  (try simp only [Act.put, List.setIfInBounds_toArray, List.set_cons_zero, List.set_cons_succ])
  refine take_d (i := 33) (v := ?vordp20r34) rfl (by rfl) (by kernel_rfl) (by kernel_rfl) (by kernel_rfl) (fun _ _ _ h => h) (Or.inl ⟨by rfl, ?hordp20r34⟩) (by assumption) ?rordp20r34
  case hordp20r34 => (intro wS hSw; (try dsimp only at hSw); go_simp; try (with_reducible rfl))
  (try simp only [Act.put, List.setIfInBounds_toArray, List.set_cons_zero, List.set_cons_succ])
  refine take_d (i := 34) (v := ?vordp20r35) rfl (by rfl) (by kernel_rfl) (by kernel_rfl) (by kernel_rfl) (fun _ _ _ h => h) (Or.inl ⟨by rfl, ?hordp20r35⟩) (by assumption) ?rordp20r35
  case hordp20r35 => (intro wS hSw; (try dsimp only at hSw); have hcq0 := cn hSw JB0; have hcq1 := cn hSw JB1; go_simp; try (with_reducible rfl))
  (try simp only [Act.put, List.setIfInBounds_toArray, List.set_cons_zero, List.set_cons_succ])
  refine take_d (i := 35) (v := ?vordp20r36) rfl (by rfl) (by kernel_rfl) (by kernel_rfl) (by kernel_rfl) (fun _ _ _ h => h) (Or.inl ⟨by rfl, ?hordp20r36⟩) (by assumption) ?rordp20r36
  case hordp20r36 => (intro wS hSw; (try dsimp only at hSw); have hcq0 := cn hSw JC0; have hcq1 := cn hSw JC1; go_simp; try (with_reducible rfl))
  (try simp only [Act.put, List.setIfInBounds_toArray, List.set_cons_zero, List.set_cons_succ])
  refine wpAnyH_ready (rs := [36]) (by kernel_rfl) (by simp) ?_
  refine AllReadyH.cons rfl (fun K hK => ?_) AllReadyH.nil
  go_simp
  go_at_call 48
  refine (Ibc.out _).mono ?_
  rintro e wordp20r37 ⟨rfl, bkordp20r37⟩
  have hBn := below_next hBk bkordp20r37
  clear hBk bkordp20r37
  have hBk := hBn
  clear hBn
  try go_simp
  refine hK.out _ _ ?_ (fun hHeld => ?_)
  · (try dsimp only); exact hBk
  clear hK K
  (try simp only [Act.put, List.setIfInBounds_toArray, List.set_cons_zero, List.set_cons_succ])
  refine take_d (i := 37) (v := ?vordp20r38) rfl (by rfl) (by kernel_rfl) (by kernel_rfl) (by kernel_rfl) (fun _ _ _ h => h) (Or.inl ⟨by rfl, ?hordp20r38⟩) (by assumption) ?rordp20r38
  case hordp20r38 => (intro wS hSw; (try dsimp only at hSw); go_simp; try (with_reducible rfl))
  (try simp only [Act.put, List.setIfInBounds_toArray, List.set_cons_zero, List.set_cons_succ])
  refine take_d (i := 38) (v := ?vordp20r39) rfl (by rfl) (by kernel_rfl) (by kernel_rfl) (by kernel_rfl) (fun _ _ _ h => h) (Or.inl ⟨by rfl, ?hordp20r39⟩) (by assumption) ?rordp20r39
  case hordp20r39 => (intro wS hSw; (try dsimp only at hSw); go_simp; try (with_reducible rfl))
  (try simp only [Act.put, List.setIfInBounds_toArray, List.set_cons_zero, List.set_cons_succ])
  refine take_d (i := 39) (v := undef) rfl (by rfl) (by kernel_rfl) (by kernel_rfl) (by kernel_rfl) (fun _ _ _ h => h) (Or.inr ⟨by rfl, rfl⟩) (by assumption) ?rordp20r40
  (try simp only [Act.put, List.setIfInBounds_toArray, List.set_cons_zero, List.set_cons_succ])
  refine take_d (i := 40) (v := undef) rfl (by rfl) (by kernel_rfl) (by kernel_rfl) (by kernel_rfl) (fun _ _ _ h => h) (Or.inr ⟨by rfl, rfl⟩) (by assumption) ?rordp20r41
  (try simp only [Act.put, List.setIfInBounds_toArray, List.set_cons_zero, List.set_cons_succ])
  refine take_d (i := 41) (v := undef) rfl (by rfl) (by kernel_rfl) (by kernel_rfl) (by kernel_rfl) (fun _ _ _ h => h) (Or.inr ⟨by rfl, rfl⟩) (by assumption) ?rordp20r42
  (try simp only [Act.put, List.setIfInBounds_toArray, List.set_cons_zero, List.set_cons_succ])
  refine take_d (i := 42) (v := undef) rfl (by rfl) (by kernel_rfl) (by kernel_rfl) (by kernel_rfl) (fun _ _ _ h => h) (Or.inr ⟨by rfl, rfl⟩) (by assumption) ?rordp20r43
  (try simp only [Act.put, List.setIfInBounds_toArray, List.set_cons_zero, List.set_cons_succ])
  refine take_d (i := 43) (v := ?vordp20r44) rfl (by rfl) (by kernel_rfl) (by kernel_rfl) (by kernel_rfl) (fun _ _ _ h => h) (Or.inl ⟨by rfl, ?hordp20r44⟩) (by assumption) ?rordp20r44
  case hordp20r44 => (intro wS hSw; (try dsimp only at hSw); go_simp; try (with_reducible rfl))
  (try simp only [Act.put, List.setIfInBounds_toArray, List.set_cons_zero, List.set_cons_succ])
  refine take_d (i := 44) (v := ?vordp20r45) rfl (by rfl) (by kernel_rfl) (by kernel_rfl) (by kernel_rfl) (fun _ _ _ h => h) (Or.inl ⟨by rfl, ?hordp20r45⟩) (by assumption) ?rordp20r45
  case hordp20r45 => (intro wS hSw; (try dsimp only at hSw); go_simp; try (with_reducible rfl))
  (try simp only [Act.put, List.setIfInBounds_toArray, List.set_cons_zero, List.set_cons_succ])
  refine wpAnyH_done (by kernel_rfl) ?_ _
  clear JA0 JA1 JAl JB0 JB1 JBl JC0 JC1 JCl JJ0 JJ1 JJl lB
  generalize wordp20r37 = w7 at hBk ⊢
  replace JA := JA.below hBk
  replace JB := JB.below hBk
  replace JC := JC.below hBk
  replace JJ := JJ.below hBk
  replace B := below_next B hBk
  clear hBk
  cases ac
  · skip
    have JA0 := JA.2.1
    have JA1 := JA.2.2
    have JAl := JA.1
    have JB0 := JB.2.1
    have JB1 := JB.2.2
    have JBl := JB.1
    have JC0 := JC.2.1
    have JC1 := JC.2.2
    have JCl := JC.1
    have JJ0 := JJ.2.1
    have JJ1 := JJ.2.2
    have JJl := JJ.1
    have lB := B.size
    go_wp2_with fail
    refine (Iaj.out _).mono ?_
    rintro e w8 ⟨rfl, z⟩
    clear JA0 JA1 JAl JB0 JB1 JBl JC0 JC1 JCl JJ0 JJ1 JJl lB
    replace JA := JA.below z
    replace JB := JB.below z
    replace JC := JC.below z
    replace JJ := JJ.below z
    replace B := below_next B z
    clear z
    have JA0 := JA.2.1
    have JA1 := JA.2.2
    have JAl := JA.1
    have JB0 := JB.2.1
    have JB1 := JB.2.2
    have JBl := JB.1
    have JC0 := JC.2.1
    have JC1 := JC.2.2
    have JCl := JC.1
    have JJ0 := JJ.2.1
    have JJ1 := JJ.2.2
    have JJl := JJ.1
    have lB := B.size
    go_wp2_with fail
    refine (Ibj.out _).mono ?_
    rintro e w9 ⟨rfl, z⟩
    clear JA0 JA1 JAl JB0 JB1 JBl JC0 JC1 JCl JJ0 JJ1 JJl lB
    replace JA := JA.below z
    replace JB := JB.below z
    replace JC := JC.below z
    replace JJ := JJ.below z
    replace B := below_next B z
    clear z
    have JA0 := JA.2.1
    have JA1 := JA.2.2
    have JAl := JA.1
    have JB0 := JB.2.1
    have JB1 := JB.2.2
    have JBl := JB.1
    have JC0 := JC.2.1
    have JC1 := JC.2.2
    have JCl := JC.1
    have JJ0 := JJ.2.1
    have JJ1 := JJ.2.2
    have JJl := JJ.1
    have lB := B.size
    go_wp2_with fail
    refine (Iac.out _).mono ?_
    rintro e w10 ⟨rfl, z⟩
    clear JA0 JA1 JAl JB0 JB1 JBl JC0 JC1 JCl JJ0 JJ1 JJl lB
    replace JA := JA.below z
    replace JB := JB.below z
    replace JC := JC.below z
    replace JJ := JJ.below z
    replace B := below_next B z
    clear z
    have JA0 := JA.2.1
    have JA1 := JA.2.2
    have JAl := JA.1
    have JB0 := JB.2.1
    have JB1 := JB.2.2
    have JBl := JB.1
    have JC0 := JC.2.1
    have JC1 := JC.2.2
    have JCl := JC.1
    have JJ0 := JJ.2.1
    have JJ1 := JJ.2.2
    have JJl := JJ.1
    have lB := B.size
    go_wp2_with fail
    refine (XM.out _).mono ?_
    rintro e w11 ⟨rfl, z⟩
    clear JA0 JA1 JAl JB0 JB1 JBl JC0 JC1 JCl JJ0 JJ1 JJl lB
    replace JA := JA.below z
    replace JB := JB.below z
    replace JC := JC.below z
    replace JJ := JJ.below z
    replace B := below_next B z
    clear z
    rcases (show mk = true ∨ mk = false by cases mk <;> simp) with rfl | rfl
    · skip
      obtain rfl : ma = true := mA.out (by trivial)
      obtain rfl : mb = true := mB.out (by trivial)
      clear mA mB
      have JA0 := JA.2.1
      have JA1 := JA.2.2
      have JAl := JA.1
      have JB0 := JB.2.1
      have JB1 := JB.2.2
      have JBl := JB.1
      have JC0 := JC.2.1
      have JC1 := JC.2.2
      have JCl := JC.1
      have JJ0 := JJ.2.1
      have JJ1 := JJ.2.2
      have JJl := JJ.1
      have lB := B.size
      go_wp2_with fail
      clear JA0 JA1 JAl JB0 JB1 JBl JC0 JC1 JCl JJ0 JJ1 JJl lB
      have JM : TC (w11.alloc (.cells #[.int .u64 (ub M0.1), .int .u64 (ub M0.2)] 24)) w11.heap.size M0 := TC.new rfl
      replace JA := JA.alloc (.cells #[.int .u64 (ub M0.1), .int .u64 (ub M0.2)] 24)
      replace JB := JB.alloc (.cells #[.int .u64 (ub M0.1), .int .u64 (ub M0.2)] 24)
      replace JC := JC.alloc (.cells #[.int .u64 (ub M0.1), .int .u64 (ub M0.2)] 24)
      replace JJ := JJ.alloc (.cells #[.int .u64 (ub M0.1), .int .u64 (ub M0.2)] 24)
      replace B := Below.alloc B B.size (.cells #[.int .u64 (ub M0.1), .int .u64 (ub M0.2)] 24)
      generalize w11.alloc (.cells #[.int .u64 (ub M0.1), .int .u64 (ub M0.2)] 24) = w12 at *
      generalize w11.heap.size = g2 at *
      have JA0 := JA.2.1
      have JA1 := JA.2.2
      have JAl := JA.1
      have JB0 := JB.2.1
      have JB1 := JB.2.2
      have JBl := JB.1
      have JC0 := JC.2.1
      have JC1 := JC.2.2
      have JCl := JC.1
      have JJ0 := JJ.2.1
      have JJ1 := JJ.2.2
      have JJl := JJ.1
      have JM0 := JM.2.1
      have JM1 := JM.2.2
      have JMl := JM.1
      have lB := B.size
      go_wp2_with fail
      refine (Ima.out _).mono ?_
      rintro e w13 ⟨rfl, z⟩
      clear JA0 JA1 JAl JB0 JB1 JBl JC0 JC1 JCl JJ0 JJ1 JJl JM0 JM1 JMl lB
      replace JA := JA.below z
      replace JB := JB.below z
      replace JC := JC.below z
      replace JJ := JJ.below z
      replace JM := JM.below z
      replace B := below_next B z
      clear z
      have JA0 := JA.2.1
      have JA1 := JA.2.2
      have JAl := JA.1
      have JB0 := JB.2.1
      have JB1 := JB.2.2
      have JBl := JB.1
      have JC0 := JC.2.1
      have JC1 := JC.2.2
      have JCl := JC.1
      have JJ0 := JJ.2.1
      have JJ1 := JJ.2.2
      have JJl := JJ.1
      have JM0 := JM.2.1
      have JM1 := JM.2.2
      have JMl := JM.1
      have lB := B.size
      go_wp2_with fail
      refine (Imb.out _).mono ?_
      rintro e w14 ⟨rfl, z⟩
      clear JA0 JA1 JAl JB0 JB1 JBl JC0 JC1 JCl JJ0 JJ1 JJl JM0 JM1 JMl lB
      replace JA := JA.below z
      replace JB := JB.below z
      replace JC := JC.below z
      replace JJ := JJ.below z
      replace JM := JM.below z
      replace B := below_next B z
      clear z
      have JA0 := JA.2.1
      have JA1 := JA.2.2
      have JAl := JA.1
      have JB0 := JB.2.1
      have JB1 := JB.2.2
      have JBl := JB.1
      have JC0 := JC.2.1
      have JC1 := JC.2.2
      have JCl := JC.1
      have JJ0 := JJ.2.1
      have JJ1 := JJ.2.2
      have JJl := JJ.1
      have JM0 := JM.2.1
      have JM1 := JM.2.2
      have JMl := JM.1
      have lB := B.size
      go_wp2_with fail
      refine (Ica.out _).mono ?_
      rintro e w15 ⟨rfl, z⟩
      clear JA0 JA1 JAl JB0 JB1 JBl JC0 JC1 JCl JJ0 JJ1 JJl JM0 JM1 JMl lB
      replace JA := JA.below z
      replace JB := JB.below z
      replace JC := JC.below z
      replace JJ := JJ.below z
      replace JM := JM.below z
      replace B := below_next B z
      clear z
      cases ca
      · skip
        have hce := hce.out
        have JA0 := JA.2.1
        have JA1 := JA.2.2
        have JAl := JA.1
        have JB0 := JB.2.1
        have JB1 := JB.2.2
        have JBl := JB.1
        have JC0 := JC.2.1
        have JC1 := JC.2.2
        have JCl := JC.1
        have JJ0 := JJ.2.1
        have JJ1 := JJ.2.2
        have JJl := JJ.1
        have JM0 := JM.2.1
        have JM1 := JM.2.2
        have JMl := JM.1
        have lB := B.size
        go_wp2_with fail
        refine wp_region_held_drew (S := (fun w' : World => Below w15.heap.size w15 w')) (by kernel_rfl) ?_ (fun hHeld => ?_)
        · (try dsimp only); first | (with_reducible exact below_dr _) | (with_reducible exact Below.refl _ _) | exact below_dr _
        have hBk := below_dr w15
        refine take_d (i := 0) (v := ?vq31_1) rfl (by rfl) (by kernel_rfl) (by kernel_rfl) (by kernel_rfl) (fun _ _ _ h => h) (Or.inl ⟨by rfl, ?hq31_1⟩) (by assumption) ?rq31_1
        case hq31_1 => (intro wS hSw; (try dsimp only at hSw); have hcq0 := cn hSw JA0; have hcq1 := cn hSw JA1; go_simp; try (with_reducible rfl))
        (try simp only [Act.put, List.setIfInBounds_toArray, List.set_cons_zero, List.set_cons_succ])
        refine take_d (i := 1) (v := ?vq31_2) rfl (by rfl) (by kernel_rfl) (by kernel_rfl) (by kernel_rfl) (fun _ _ _ h => h) (Or.inl ⟨by rfl, ?hq31_2⟩) (by assumption) ?rq31_2
        case hq31_2 => (intro wS hSw; (try dsimp only at hSw); go_simp; try (with_reducible rfl))
        (try simp only [Act.put, List.setIfInBounds_toArray, List.set_cons_zero, List.set_cons_succ])
        refine take_d (i := 2) (v := ?vq31_3) rfl (by rfl) (by kernel_rfl) (by kernel_rfl) (by kernel_rfl) (fun _ _ _ h => h) (Or.inl ⟨by rfl, ?hq31_3⟩) (by assumption) ?rq31_3
        case hq31_3 => (intro wS hSw; (try dsimp only at hSw); have hcq0 := cn hSw JA0; have hcq1 := cn hSw JA1; go_simp; try (with_reducible rfl))
        (try simp only [Act.put, List.setIfInBounds_toArray, List.set_cons_zero, List.set_cons_succ])
        refine wpAnyH_ready (rs := [3]) (by kernel_rfl) (by simp) ?_
        refine AllReadyH.cons rfl (fun K hK => ?_) AllReadyH.nil
        go_simp
        go_at_call 46
        refine (HL.out _).mono ?_
        rintro e wq31_4 ⟨rfl, bkq31_4⟩
        have hBn := below_next hBk bkq31_4
        clear hBk bkq31_4
        have hBk := hBn
        clear hBn
        try go_simp
        refine hK.out _ _ ?_ (fun hHeld => ?_)
        · (try dsimp only); exact hBk
        clear hK K
        (try simp only [Act.put, List.setIfInBounds_toArray, List.set_cons_zero, List.set_cons_succ])
        refine take_d (i := 4) (v := ?vq31_5) rfl (by rfl) (by kernel_rfl) (by kernel_rfl) (by kernel_rfl) (fun _ _ _ h => h) (Or.inl ⟨by rfl, ?hq31_5⟩) (by assumption) ?rq31_5
        case hq31_5 => (intro wS hSw; (try dsimp only at hSw); go_simp; try (with_reducible rfl))
        (try simp only [Act.put, List.setIfInBounds_toArray, List.set_cons_zero, List.set_cons_succ])
        refine take_d (i := 5) (v := ?vq31_6) rfl (by rfl) (by kernel_rfl) (by kernel_rfl) (by kernel_rfl) (fun _ _ _ h => h) (Or.inl ⟨by rfl, ?hq31_6⟩) (by assumption) ?rq31_6
        case hq31_6 => (intro wS hSw; (try dsimp only at hSw); have hcq0 := cn hSw JA0; have hcq1 := cn hSw JA1; go_simp; try (with_reducible rfl))
        (try simp only [Act.put, List.setIfInBounds_toArray, List.set_cons_zero, List.set_cons_succ])
        refine take_d (i := 6) (v := ?vq31_7) rfl (by rfl) (by kernel_rfl) (by kernel_rfl) (by kernel_rfl) (fun _ _ _ h => h) (Or.inl ⟨by rfl, ?hq31_7⟩) (by assumption) ?rq31_7
        case hq31_7 => (intro wS hSw; (try dsimp only at hSw); go_simp; try (with_reducible rfl))
        (try simp only [Act.put, List.setIfInBounds_toArray, List.set_cons_zero, List.set_cons_succ])
        refine take_d (i := 7) (v := ?vq31_8) rfl (by rfl) (by kernel_rfl) (by kernel_rfl) (by kernel_rfl) (fun _ _ _ h => h) (Or.inl ⟨by rfl, ?hq31_8⟩) (by assumption) ?rq31_8
        case hq31_8 => (intro wS hSw; (try dsimp only at hSw); have hcq0 := cn hSw JA0; have hcq1 := cn hSw JA1; go_simp; try (with_reducible rfl))
        (try simp only [Act.put, List.setIfInBounds_toArray, List.set_cons_zero, List.set_cons_succ])
        refine take_d (i := 8) (v := ?vq31_9) rfl (by rfl) (by kernel_rfl) (by kernel_rfl) (by kernel_rfl) (fun _ _ _ h => h) (Or.inl ⟨by rfl, ?hq31_9⟩) (by assumption) ?rq31_9
        case hq31_9 => (intro wS hSw; (try dsimp only at hSw); go_simp; try (with_reducible rfl))
        (try simp only [Act.put, List.setIfInBounds_toArray, List.set_cons_zero, List.set_cons_succ])
        refine take_d (i := 9) (v := ?vq31_10) rfl (by rfl) (by kernel_rfl) (by kernel_rfl) (by kernel_rfl) (fun _ _ _ h => h) (Or.inl ⟨by rfl, ?hq31_10⟩) (by assumption) ?rq31_10
        case hq31_10 => (intro wS hSw; (try dsimp only at hSw); have hcq0 := cn hSw JA0; have hcq1 := cn hSw JA1; go_simp; try (with_reducible rfl))
        (try simp only [Act.put, List.setIfInBounds_toArray, List.set_cons_zero, List.set_cons_succ])
        refine take_d (i := 10) (v := ?vq31_11) rfl (by rfl) (by kernel_rfl) (by kernel_rfl) (by kernel_rfl) (fun _ _ _ h => h) (Or.inl ⟨by rfl, ?hq31_11⟩) (by assumption) ?rq31_11
        case hq31_11 => (intro wS hSw; (try dsimp only at hSw); go_simp; try (with_reducible rfl))
        (try simp only [Act.put, List.setIfInBounds_toArray, List.set_cons_zero, List.set_cons_succ])
        refine wpAnyH_ready (rs := [11]) (by kernel_rfl) (by simp) ?_
        refine AllReadyH.cons rfl (fun K hK => ?_) AllReadyH.nil
        go_simp
        go_at_call 46
        refine (HT.out _).mono ?_
        rintro e wq31_12 ⟨rfl, bkq31_12⟩
        have hBn := below_next hBk bkq31_12
        clear hBk bkq31_12
        have hBk := hBn
        clear hBn
        try go_simp
        refine hK.out _ _ ?_ (fun hHeld => ?_)
        · (try dsimp only); exact hBk
        clear hK K
        (try simp only [Act.put, List.setIfInBounds_toArray, List.set_cons_zero, List.set_cons_succ])
        refine take_d (i := 12) (v := ?vq31_13) rfl (by rfl) (by kernel_rfl) (by kernel_rfl) (by kernel_rfl) (fun _ _ _ h => h) (Or.inl ⟨by rfl, ?hq31_13⟩) (by assumption) ?rq31_13
        case hq31_13 => (intro wS hSw; (try dsimp only at hSw); go_simp; try (with_reducible rfl))
        (try simp only [Act.put, List.setIfInBounds_toArray, List.set_cons_zero, List.set_cons_succ])
        refine take_d (i := 13) (v := ?vq31_14) rfl (by rfl) (by kernel_rfl) (by kernel_rfl) (by kernel_rfl) (fun _ _ _ h => h) (Or.inl ⟨by rfl, ?hq31_14⟩) (by assumption) ?rq31_14
        case hq31_14 => (intro wS hSw; (try dsimp only at hSw); go_simp; try (with_reducible rfl))
        (try simp only [Act.put, List.setIfInBounds_toArray, List.set_cons_zero, List.set_cons_succ])
        refine take_d (i := 14) (v := ?vq31_15) rfl (by rfl) (by kernel_rfl) (by kernel_rfl) (by kernel_rfl) (fun _ _ _ h => h) (Or.inl ⟨by rfl, ?hq31_15⟩) (by assumption) ?rq31_15
        case hq31_15 => (intro wS hSw; (try dsimp only at hSw); have hcq0 := cn hSw JA0; have hcq1 := cn hSw JA1; go_simp; try (with_reducible rfl))
        (try simp only [Act.put, List.setIfInBounds_toArray, List.set_cons_zero, List.set_cons_succ])
        refine take_d (i := 17) (v := ?vq31_16) rfl (by rfl) (by kernel_rfl) (by kernel_rfl) (by kernel_rfl) (fun _ _ _ h => h) (Or.inl ⟨by rfl, ?hq31_16⟩) (by assumption) ?rq31_16
        case hq31_16 => (intro wS hSw; (try dsimp only at hSw); go_simp; try (with_reducible rfl))
        (try simp only [Act.put, List.setIfInBounds_toArray, List.set_cons_zero, List.set_cons_succ])
        refine take_d (i := 18) (v := ?vq31_17) rfl (by rfl) (by kernel_rfl) (by kernel_rfl) (by kernel_rfl) (fun _ _ _ h => h) (Or.inl ⟨by rfl, ?hq31_17⟩) (by assumption) ?rq31_17
        case hq31_17 => (intro wS hSw; (try dsimp only at hSw); have hcq0 := cn hSw JA0; have hcq1 := cn hSw JA1; go_simp; try (with_reducible rfl))
        (try simp only [Act.put, List.setIfInBounds_toArray, List.set_cons_zero, List.set_cons_succ])
        refine take_d (i := 19) (v := ?vq31_18) rfl (by rfl) (by kernel_rfl) (by kernel_rfl) (by kernel_rfl) (fun _ _ _ h => h) (Or.inl ⟨by rfl, ?hq31_18⟩) (by assumption) ?rq31_18
        case hq31_18 => (intro wS hSw; (try dsimp only at hSw); go_simp; try (with_reducible rfl))
        (try simp only [Act.put, List.setIfInBounds_toArray, List.set_cons_zero, List.set_cons_succ])
        refine wpAnyH_ready (rs := [15]) (by kernel_rfl) (by simp) ?_
        refine AllReadyH.cons rfl (fun K hK => ?_) AllReadyH.nil
        go_simp
        go_at_call 49
        refine (FR.out _).mono ?_
        rintro e wq31_19 ⟨rfl, bkq31_19⟩
        have hBn := below_next hBk bkq31_19
        clear hBk bkq31_19
        have hBk := hBn
        clear hBn
        try go_simp
        refine hK.out _ _ ?_ (fun hHeld => ?_)
        · (try dsimp only); exact hBk
        clear hK K
        (try simp only [Act.put, List.setIfInBounds_toArray, List.set_cons_zero, List.set_cons_succ])
        refine take_d (i := 16) (v := ?vq31_20) rfl (by rfl) (by kernel_rfl) (by kernel_rfl) (by kernel_rfl) (fun _ _ _ h => h) (Or.inl ⟨by rfl, ?hq31_20⟩) (by assumption) ?rq31_20
        case hq31_20 => (intro wS hSw; (try dsimp only at hSw); go_simp; try (with_reducible rfl))
        (try simp only [Act.put, List.setIfInBounds_toArray, List.set_cons_zero, List.set_cons_succ])
        refine take_d (i := 20) (v := ?vq31_21) rfl (by rfl) (by kernel_rfl) (by kernel_rfl) (by kernel_rfl) (fun _ _ _ h => h) (Or.inl ⟨by rfl, ?hq31_21⟩) (by assumption) ?rq31_21
        case hq31_21 => (intro wS hSw; (try dsimp only at hSw); go_simp; try (with_reducible rfl))
        (try simp only [Act.put, List.setIfInBounds_toArray, List.set_cons_zero, List.set_cons_succ])
        refine take_d (i := 21) (v := ?vq31_22) rfl (by rfl) (by kernel_rfl) (by kernel_rfl) (by kernel_rfl) (fun _ _ _ h => h) (Or.inl ⟨by rfl, ?hq31_22⟩) (by assumption) ?rq31_22
        case hq31_22 => (intro wS hSw; (try dsimp only at hSw); go_simp; try (with_reducible rfl))
        (try simp only [Act.put, List.setIfInBounds_toArray, List.set_cons_zero, List.set_cons_succ])
        refine take_d (i := 22) (v := ?vq31_23) rfl (by rfl) (by kernel_rfl) (by kernel_rfl) (by kernel_rfl) (fun _ _ _ h => h) (Or.inl ⟨by rfl, ?hq31_23⟩) (by assumption) ?rq31_23
        case hq31_23 => (intro wS hSw; (try dsimp only at hSw); go_simp; try (with_reducible rfl))
        (try simp only [Act.put, List.setIfInBounds_toArray, List.set_cons_zero, List.set_cons_succ])
        refine wpAnyH_done (by kernel_rfl) ?_ _
        clear JA0 JA1 JAl JB0 JB1 JBl JC0 JC1 JCl JJ0 JJ1 JJl JM0 JM1 JMl lB
        generalize wq31_19 = w16 at hBk ⊢
        replace JA := JA.below hBk
        replace JB := JB.below hBk
        replace JC := JC.below hBk
        replace JJ := JJ.below hBk
        replace JM := JM.below hBk
        replace B := below_next B hBk
        clear hBk
        go_wp2
        go_ret
        exact ⟨rfl, B⟩
      · skip
        have JA0 := JA.2.1
        have JA1 := JA.2.2
        have JAl := JA.1
        have JB0 := JB.2.1
        have JB1 := JB.2.2
        have JBl := JB.1
        have JC0 := JC.2.1
        have JC1 := JC.2.2
        have JCl := JC.1
        have JJ0 := JJ.2.1
        have JJ1 := JJ.2.2
        have JJl := JJ.1
        have JM0 := JM.2.1
        have JM1 := JM.2.2
        have JMl := JM.1
        have lB := B.size
        go_wp2_with fail
        refine (Icb.out _).mono ?_
        rintro e w16 ⟨rfl, z⟩
        clear JA0 JA1 JAl JB0 JB1 JBl JC0 JC1 JCl JJ0 JJ1 JJl JM0 JM1 JMl lB
        replace JA := JA.below z
        replace JB := JB.below z
        replace JC := JC.below z
        replace JJ := JJ.below z
        replace JM := JM.below z
        replace B := below_next B z
        clear z
        cases cb
        · skip
          have hce := hce.out
          have JA0 := JA.2.1
          have JA1 := JA.2.2
          have JAl := JA.1
          have JB0 := JB.2.1
          have JB1 := JB.2.2
          have JBl := JB.1
          have JC0 := JC.2.1
          have JC1 := JC.2.2
          have JCl := JC.1
          have JJ0 := JJ.2.1
          have JJ1 := JJ.2.2
          have JJl := JJ.1
          have JM0 := JM.2.1
          have JM1 := JM.2.2
          have JMl := JM.1
          have lB := B.size
          go_wp2_with fail
          refine wp_region_held_drew (S := (fun w' : World => Below w16.heap.size w16 w')) (by kernel_rfl) ?_ (fun hHeld => ?_)
          · (try dsimp only); first | (with_reducible exact below_dr _) | (with_reducible exact Below.refl _ _) | exact below_dr _
          have hBk := below_dr w16
          refine take_d (i := 0) (v := ?vq32_1) rfl (by rfl) (by kernel_rfl) (by kernel_rfl) (by kernel_rfl) (fun _ _ _ h => h) (Or.inl ⟨by rfl, ?hq32_1⟩) (by assumption) ?rq32_1
          case hq32_1 => (intro wS hSw; (try dsimp only at hSw); have hcq0 := cn hSw JA0; have hcq1 := cn hSw JA1; go_simp; try (with_reducible rfl))
          (try simp only [Act.put, List.setIfInBounds_toArray, List.set_cons_zero, List.set_cons_succ])
          refine take_d (i := 1) (v := ?vq32_2) rfl (by rfl) (by kernel_rfl) (by kernel_rfl) (by kernel_rfl) (fun _ _ _ h => h) (Or.inl ⟨by rfl, ?hq32_2⟩) (by assumption) ?rq32_2
          case hq32_2 => (intro wS hSw; (try dsimp only at hSw); go_simp; try (with_reducible rfl))
          (try simp only [Act.put, List.setIfInBounds_toArray, List.set_cons_zero, List.set_cons_succ])
          refine take_d (i := 2) (v := ?vq32_3) rfl (by rfl) (by kernel_rfl) (by kernel_rfl) (by kernel_rfl) (fun _ _ _ h => h) (Or.inl ⟨by rfl, ?hq32_3⟩) (by assumption) ?rq32_3
          case hq32_3 => (intro wS hSw; (try dsimp only at hSw); have hcq0 := cn hSw JA0; have hcq1 := cn hSw JA1; go_simp; try (with_reducible rfl))
          (try simp only [Act.put, List.setIfInBounds_toArray, List.set_cons_zero, List.set_cons_succ])
          refine wpAnyH_ready (rs := [3]) (by kernel_rfl) (by simp) ?_
          refine AllReadyH.cons rfl (fun K hK => ?_) AllReadyH.nil
          go_simp
          go_at_call 46
          refine (HL.out _).mono ?_
          rintro e wq32_4 ⟨rfl, bkq32_4⟩
          have hBn := below_next hBk bkq32_4
          clear hBk bkq32_4
          have hBk := hBn
          clear hBn
          try go_simp
          refine hK.out _ _ ?_ (fun hHeld => ?_)
          · (try dsimp only); exact hBk
          clear hK K
          (try simp only [Act.put, List.setIfInBounds_toArray, List.set_cons_zero, List.set_cons_succ])
          refine take_d (i := 4) (v := ?vq32_5) rfl (by rfl) (by kernel_rfl) (by kernel_rfl) (by kernel_rfl) (fun _ _ _ h => h) (Or.inl ⟨by rfl, ?hq32_5⟩) (by assumption) ?rq32_5
          case hq32_5 => (intro wS hSw; (try dsimp only at hSw); go_simp; try (with_reducible rfl))
          (try simp only [Act.put, List.setIfInBounds_toArray, List.set_cons_zero, List.set_cons_succ])
          refine take_d (i := 5) (v := ?vq32_6) rfl (by rfl) (by kernel_rfl) (by kernel_rfl) (by kernel_rfl) (fun _ _ _ h => h) (Or.inl ⟨by rfl, ?hq32_6⟩) (by assumption) ?rq32_6
          case hq32_6 => (intro wS hSw; (try dsimp only at hSw); have hcq0 := cn hSw JA0; have hcq1 := cn hSw JA1; go_simp; try (with_reducible rfl))
          (try simp only [Act.put, List.setIfInBounds_toArray, List.set_cons_zero, List.set_cons_succ])
          refine take_d (i := 6) (v := ?vq32_7) rfl (by rfl) (by kernel_rfl) (by kernel_rfl) (by kernel_rfl) (fun _ _ _ h => h) (Or.inl ⟨by rfl, ?hq32_7⟩) (by assumption) ?rq32_7
          case hq32_7 => (intro wS hSw; (try dsimp only at hSw); go_simp; try (with_reducible rfl))
          (try simp only [Act.put, List.setIfInBounds_toArray, List.set_cons_zero, List.set_cons_succ])
          refine take_d (i := 7) (v := ?vq32_8) rfl (by rfl) (by kernel_rfl) (by kernel_rfl) (by kernel_rfl) (fun _ _ _ h => h) (Or.inl ⟨by rfl, ?hq32_8⟩) (by assumption) ?rq32_8
          case hq32_8 => (intro wS hSw; (try dsimp only at hSw); have hcq0 := cn hSw JA0; have hcq1 := cn hSw JA1; go_simp; try (with_reducible rfl))
          (try simp only [Act.put, List.setIfInBounds_toArray, List.set_cons_zero, List.set_cons_succ])
          refine take_d (i := 8) (v := ?vq32_9) rfl (by rfl) (by kernel_rfl) (by kernel_rfl) (by kernel_rfl) (fun _ _ _ h => h) (Or.inl ⟨by rfl, ?hq32_9⟩) (by assumption) ?rq32_9
          case hq32_9 => (intro wS hSw; (try dsimp only at hSw); go_simp; try (with_reducible rfl))
          (try simp only [Act.put, List.setIfInBounds_toArray, List.set_cons_zero, List.set_cons_succ])
          refine take_d (i := 9) (v := ?vq32_10) rfl (by rfl) (by kernel_rfl) (by kernel_rfl) (by kernel_rfl) (fun _ _ _ h => h) (Or.inl ⟨by rfl, ?hq32_10⟩) (by assumption) ?rq32_10
          case hq32_10 => (intro wS hSw; (try dsimp only at hSw); have hcq0 := cn hSw JA0; have hcq1 := cn hSw JA1; go_simp; try (with_reducible rfl))
          (try simp only [Act.put, List.setIfInBounds_toArray, List.set_cons_zero, List.set_cons_succ])
          refine take_d (i := 10) (v := ?vq32_11) rfl (by rfl) (by kernel_rfl) (by kernel_rfl) (by kernel_rfl) (fun _ _ _ h => h) (Or.inl ⟨by rfl, ?hq32_11⟩) (by assumption) ?rq32_11
          case hq32_11 => (intro wS hSw; (try dsimp only at hSw); go_simp; try (with_reducible rfl))
          (try simp only [Act.put, List.setIfInBounds_toArray, List.set_cons_zero, List.set_cons_succ])
          refine wpAnyH_ready (rs := [11]) (by kernel_rfl) (by simp) ?_
          refine AllReadyH.cons rfl (fun K hK => ?_) AllReadyH.nil
          go_simp
          go_at_call 46
          refine (HT.out _).mono ?_
          rintro e wq32_12 ⟨rfl, bkq32_12⟩
          have hBn := below_next hBk bkq32_12
          clear hBk bkq32_12
          have hBk := hBn
          clear hBn
          try go_simp
          refine hK.out _ _ ?_ (fun hHeld => ?_)
          · (try dsimp only); exact hBk
          clear hK K
          (try simp only [Act.put, List.setIfInBounds_toArray, List.set_cons_zero, List.set_cons_succ])
          refine take_d (i := 12) (v := ?vq32_13) rfl (by rfl) (by kernel_rfl) (by kernel_rfl) (by kernel_rfl) (fun _ _ _ h => h) (Or.inl ⟨by rfl, ?hq32_13⟩) (by assumption) ?rq32_13
          case hq32_13 => (intro wS hSw; (try dsimp only at hSw); go_simp; try (with_reducible rfl))
          (try simp only [Act.put, List.setIfInBounds_toArray, List.set_cons_zero, List.set_cons_succ])
          refine take_d (i := 13) (v := ?vq32_14) rfl (by rfl) (by kernel_rfl) (by kernel_rfl) (by kernel_rfl) (fun _ _ _ h => h) (Or.inl ⟨by rfl, ?hq32_14⟩) (by assumption) ?rq32_14
          case hq32_14 => (intro wS hSw; (try dsimp only at hSw); go_simp; try (with_reducible rfl))
          (try simp only [Act.put, List.setIfInBounds_toArray, List.set_cons_zero, List.set_cons_succ])
          refine take_d (i := 14) (v := ?vq32_15) rfl (by rfl) (by kernel_rfl) (by kernel_rfl) (by kernel_rfl) (fun _ _ _ h => h) (Or.inl ⟨by rfl, ?hq32_15⟩) (by assumption) ?rq32_15
          case hq32_15 => (intro wS hSw; (try dsimp only at hSw); have hcq0 := cn hSw JA0; have hcq1 := cn hSw JA1; go_simp; try (with_reducible rfl))
          (try simp only [Act.put, List.setIfInBounds_toArray, List.set_cons_zero, List.set_cons_succ])
          refine take_d (i := 17) (v := ?vq32_16) rfl (by rfl) (by kernel_rfl) (by kernel_rfl) (by kernel_rfl) (fun _ _ _ h => h) (Or.inl ⟨by rfl, ?hq32_16⟩) (by assumption) ?rq32_16
          case hq32_16 => (intro wS hSw; (try dsimp only at hSw); go_simp; try (with_reducible rfl))
          (try simp only [Act.put, List.setIfInBounds_toArray, List.set_cons_zero, List.set_cons_succ])
          refine take_d (i := 18) (v := ?vq32_17) rfl (by rfl) (by kernel_rfl) (by kernel_rfl) (by kernel_rfl) (fun _ _ _ h => h) (Or.inl ⟨by rfl, ?hq32_17⟩) (by assumption) ?rq32_17
          case hq32_17 => (intro wS hSw; (try dsimp only at hSw); have hcq0 := cn hSw JA0; have hcq1 := cn hSw JA1; go_simp; try (with_reducible rfl))
          (try simp only [Act.put, List.setIfInBounds_toArray, List.set_cons_zero, List.set_cons_succ])
          refine take_d (i := 19) (v := ?vq32_18) rfl (by rfl) (by kernel_rfl) (by kernel_rfl) (by kernel_rfl) (fun _ _ _ h => h) (Or.inl ⟨by rfl, ?hq32_18⟩) (by assumption) ?rq32_18
          case hq32_18 => (intro wS hSw; (try dsimp only at hSw); go_simp; try (with_reducible rfl))
          (try simp only [Act.put, List.setIfInBounds_toArray, List.set_cons_zero, List.set_cons_succ])
          refine wpAnyH_ready (rs := [15]) (by kernel_rfl) (by simp) ?_
          refine AllReadyH.cons rfl (fun K hK => ?_) AllReadyH.nil
          go_simp
          go_at_call 49
          refine (FR.out _).mono ?_
          rintro e wq32_19 ⟨rfl, bkq32_19⟩
          have hBn := below_next hBk bkq32_19
          clear hBk bkq32_19
          have hBk := hBn
          clear hBn
          try go_simp
          refine hK.out _ _ ?_ (fun hHeld => ?_)
          · (try dsimp only); exact hBk
          clear hK K
          (try simp only [Act.put, List.setIfInBounds_toArray, List.set_cons_zero, List.set_cons_succ])
          refine take_d (i := 16) (v := ?vq32_20) rfl (by rfl) (by kernel_rfl) (by kernel_rfl) (by kernel_rfl) (fun _ _ _ h => h) (Or.inl ⟨by rfl, ?hq32_20⟩) (by assumption) ?rq32_20
          case hq32_20 => (intro wS hSw; (try dsimp only at hSw); go_simp; try (with_reducible rfl))
          (try simp only [Act.put, List.setIfInBounds_toArray, List.set_cons_zero, List.set_cons_succ])
          refine take_d (i := 20) (v := ?vq32_21) rfl (by rfl) (by kernel_rfl) (by kernel_rfl) (by kernel_rfl) (fun _ _ _ h => h) (Or.inl ⟨by rfl, ?hq32_21⟩) (by assumption) ?rq32_21
          case hq32_21 => (intro wS hSw; (try dsimp only at hSw); go_simp; try (with_reducible rfl))
          (try simp only [Act.put, List.setIfInBounds_toArray, List.set_cons_zero, List.set_cons_succ])
          refine take_d (i := 21) (v := ?vq32_22) rfl (by rfl) (by kernel_rfl) (by kernel_rfl) (by kernel_rfl) (fun _ _ _ h => h) (Or.inl ⟨by rfl, ?hq32_22⟩) (by assumption) ?rq32_22
          case hq32_22 => (intro wS hSw; (try dsimp only at hSw); go_simp; try (with_reducible rfl))
          (try simp only [Act.put, List.setIfInBounds_toArray, List.set_cons_zero, List.set_cons_succ])
          refine take_d (i := 22) (v := ?vq32_23) rfl (by rfl) (by kernel_rfl) (by kernel_rfl) (by kernel_rfl) (fun _ _ _ h => h) (Or.inl ⟨by rfl, ?hq32_23⟩) (by assumption) ?rq32_23
          case hq32_23 => (intro wS hSw; (try dsimp only at hSw); go_simp; try (with_reducible rfl))
          (try simp only [Act.put, List.setIfInBounds_toArray, List.set_cons_zero, List.set_cons_succ])
          refine wpAnyH_done (by kernel_rfl) ?_ _
          clear JA0 JA1 JAl JB0 JB1 JBl JC0 JC1 JCl JJ0 JJ1 JJl JM0 JM1 JMl lB
          generalize wq32_19 = w17 at hBk ⊢
          replace JA := JA.below hBk
          replace JB := JB.below hBk
          replace JC := JC.below hBk
          replace JJ := JJ.below hBk
          replace JM := JM.below hBk
          replace B := below_next B hBk
          clear hBk
          go_wp2
          go_ret
          exact ⟨rfl, B⟩
        · skip
          obtain rfl : cm = true := (cM.out (by trivial) (by trivial)).2
          have JA0 := JA.2.1
          have JA1 := JA.2.2
          have JAl := JA.1
          have JB0 := JB.2.1
          have JB1 := JB.2.2
          have JBl := JB.1
          have JC0 := JC.2.1
          have JC1 := JC.2.2
          have JCl := JC.1
          have JJ0 := JJ.2.1
          have JJ1 := JJ.2.2
          have JJl := JJ.1
          have JM0 := JM.2.1
          have JM1 := JM.2.2
          have JMl := JM.1
          have lB := B.size
          go_wp2_with fail
          refine (Icm.out _).mono ?_
          rintro e w17 ⟨rfl, z⟩
          clear JA0 JA1 JAl JB0 JB1 JBl JC0 JC1 JCl JJ0 JJ1 JJl JM0 JM1 JMl lB
          replace JA := JA.below z
          replace JB := JB.below z
          replace JC := JC.below z
          replace JJ := JJ.below z
          replace JM := JM.below z
          replace B := below_next B z
          clear z
          have hce := hce.out
          have JA0 := JA.2.1
          have JA1 := JA.2.2
          have JAl := JA.1
          have JB0 := JB.2.1
          have JB1 := JB.2.2
          have JBl := JB.1
          have JC0 := JC.2.1
          have JC1 := JC.2.2
          have JCl := JC.1
          have JJ0 := JJ.2.1
          have JJ1 := JJ.2.2
          have JJl := JJ.1
          have JM0 := JM.2.1
          have JM1 := JM.2.2
          have JMl := JM.1
          have lB := B.size
          go_wp2_with fail
          refine wp_region_held_drew (S := (fun w' : World => Below w17.heap.size w17 w')) (by kernel_rfl) ?_ (fun hHeld => ?_)
          · (try dsimp only); first | (with_reducible exact below_dr _) | (with_reducible exact Below.refl _ _) | exact below_dr _
          have hBk := below_dr w17
          refine take_d (i := 0) (v := ?vq33_1) rfl (by rfl) (by kernel_rfl) (by kernel_rfl) (by kernel_rfl) (fun _ _ _ h => h) (Or.inl ⟨by rfl, ?hq33_1⟩) (by assumption) ?rq33_1
          case hq33_1 => (intro wS hSw; (try dsimp only at hSw); have hcq0 := cn hSw JA0; have hcq1 := cn hSw JA1; go_simp; try (with_reducible rfl))
          (try simp only [Act.put, List.setIfInBounds_toArray, List.set_cons_zero, List.set_cons_succ])
          refine take_d (i := 1) (v := ?vq33_2) rfl (by rfl) (by kernel_rfl) (by kernel_rfl) (by kernel_rfl) (fun _ _ _ h => h) (Or.inl ⟨by rfl, ?hq33_2⟩) (by assumption) ?rq33_2
          case hq33_2 => (intro wS hSw; (try dsimp only at hSw); go_simp; try (with_reducible rfl))
          (try simp only [Act.put, List.setIfInBounds_toArray, List.set_cons_zero, List.set_cons_succ])
          refine take_d (i := 2) (v := ?vq33_3) rfl (by rfl) (by kernel_rfl) (by kernel_rfl) (by kernel_rfl) (fun _ _ _ h => h) (Or.inl ⟨by rfl, ?hq33_3⟩) (by assumption) ?rq33_3
          case hq33_3 => (intro wS hSw; (try dsimp only at hSw); have hcq0 := cn hSw JA0; have hcq1 := cn hSw JA1; go_simp; try (with_reducible rfl))
          (try simp only [Act.put, List.setIfInBounds_toArray, List.set_cons_zero, List.set_cons_succ])
          refine wpAnyH_ready (rs := [3]) (by kernel_rfl) (by simp) ?_
          refine AllReadyH.cons rfl (fun K hK => ?_) AllReadyH.nil
          go_simp
          go_at_call 46
          refine (HL.out _).mono ?_
          rintro e wq33_4 ⟨rfl, bkq33_4⟩
          have hBn := below_next hBk bkq33_4
          clear hBk bkq33_4
          have hBk := hBn
          clear hBn
          try go_simp
          refine hK.out _ _ ?_ (fun hHeld => ?_)
          · (try dsimp only); exact hBk
          clear hK K
          (try simp only [Act.put, List.setIfInBounds_toArray, List.set_cons_zero, List.set_cons_succ])
          refine take_d (i := 4) (v := ?vq33_5) rfl (by rfl) (by kernel_rfl) (by kernel_rfl) (by kernel_rfl) (fun _ _ _ h => h) (Or.inl ⟨by rfl, ?hq33_5⟩) (by assumption) ?rq33_5
          case hq33_5 => (intro wS hSw; (try dsimp only at hSw); go_simp; try (with_reducible rfl))
          (try simp only [Act.put, List.setIfInBounds_toArray, List.set_cons_zero, List.set_cons_succ])
          refine take_d (i := 5) (v := ?vq33_6) rfl (by rfl) (by kernel_rfl) (by kernel_rfl) (by kernel_rfl) (fun _ _ _ h => h) (Or.inl ⟨by rfl, ?hq33_6⟩) (by assumption) ?rq33_6
          case hq33_6 => (intro wS hSw; (try dsimp only at hSw); have hcq0 := cn hSw JA0; have hcq1 := cn hSw JA1; go_simp; try (with_reducible rfl))
          (try simp only [Act.put, List.setIfInBounds_toArray, List.set_cons_zero, List.set_cons_succ])
          refine take_d (i := 6) (v := ?vq33_7) rfl (by rfl) (by kernel_rfl) (by kernel_rfl) (by kernel_rfl) (fun _ _ _ h => h) (Or.inl ⟨by rfl, ?hq33_7⟩) (by assumption) ?rq33_7
          case hq33_7 => (intro wS hSw; (try dsimp only at hSw); go_simp; try (with_reducible rfl))
          (try simp only [Act.put, List.setIfInBounds_toArray, List.set_cons_zero, List.set_cons_succ])
          refine take_d (i := 7) (v := ?vq33_8) rfl (by rfl) (by kernel_rfl) (by kernel_rfl) (by kernel_rfl) (fun _ _ _ h => h) (Or.inl ⟨by rfl, ?hq33_8⟩) (by assumption) ?rq33_8
          case hq33_8 => (intro wS hSw; (try dsimp only at hSw); have hcq0 := cn hSw JA0; have hcq1 := cn hSw JA1; go_simp; try (with_reducible rfl))
          (try simp only [Act.put, List.setIfInBounds_toArray, List.set_cons_zero, List.set_cons_succ])
          refine take_d (i := 8) (v := ?vq33_9) rfl (by rfl) (by kernel_rfl) (by kernel_rfl) (by kernel_rfl) (fun _ _ _ h => h) (Or.inl ⟨by rfl, ?hq33_9⟩) (by assumption) ?rq33_9
          case hq33_9 => (intro wS hSw; (try dsimp only at hSw); go_simp; try (with_reducible rfl))
          (try simp only [Act.put, List.setIfInBounds_toArray, List.set_cons_zero, List.set_cons_succ])
          refine take_d (i := 9) (v := ?vq33_10) rfl (by rfl) (by kernel_rfl) (by kernel_rfl) (by kernel_rfl) (fun _ _ _ h => h) (Or.inl ⟨by rfl, ?hq33_10⟩) (by assumption) ?rq33_10
          case hq33_10 => (intro wS hSw; (try dsimp only at hSw); have hcq0 := cn hSw JA0; have hcq1 := cn hSw JA1; go_simp; try (with_reducible rfl))
          (try simp only [Act.put, List.setIfInBounds_toArray, List.set_cons_zero, List.set_cons_succ])
          refine take_d (i := 10) (v := ?vq33_11) rfl (by rfl) (by kernel_rfl) (by kernel_rfl) (by kernel_rfl) (fun _ _ _ h => h) (Or.inl ⟨by rfl, ?hq33_11⟩) (by assumption) ?rq33_11
          case hq33_11 => (intro wS hSw; (try dsimp only at hSw); go_simp; try (with_reducible rfl))
          (try simp only [Act.put, List.setIfInBounds_toArray, List.set_cons_zero, List.set_cons_succ])
          refine wpAnyH_ready (rs := [11]) (by kernel_rfl) (by simp) ?_
          refine AllReadyH.cons rfl (fun K hK => ?_) AllReadyH.nil
          go_simp
          go_at_call 46
          refine (HT.out _).mono ?_
          rintro e wq33_12 ⟨rfl, bkq33_12⟩
          have hBn := below_next hBk bkq33_12
          clear hBk bkq33_12
          have hBk := hBn
          clear hBn
          try go_simp
          refine hK.out _ _ ?_ (fun hHeld => ?_)
          · (try dsimp only); exact hBk
          clear hK K
          (try simp only [Act.put, List.setIfInBounds_toArray, List.set_cons_zero, List.set_cons_succ])
          refine take_d (i := 12) (v := ?vq33_13) rfl (by rfl) (by kernel_rfl) (by kernel_rfl) (by kernel_rfl) (fun _ _ _ h => h) (Or.inl ⟨by rfl, ?hq33_13⟩) (by assumption) ?rq33_13
          case hq33_13 => (intro wS hSw; (try dsimp only at hSw); go_simp; try (with_reducible rfl))
          (try simp only [Act.put, List.setIfInBounds_toArray, List.set_cons_zero, List.set_cons_succ])
          refine take_d (i := 13) (v := ?vq33_14) rfl (by rfl) (by kernel_rfl) (by kernel_rfl) (by kernel_rfl) (fun _ _ _ h => h) (Or.inl ⟨by rfl, ?hq33_14⟩) (by assumption) ?rq33_14
          case hq33_14 => (intro wS hSw; (try dsimp only at hSw); go_simp; try (with_reducible rfl))
          (try simp only [Act.put, List.setIfInBounds_toArray, List.set_cons_zero, List.set_cons_succ])
          refine take_d (i := 14) (v := ?vq33_15) rfl (by rfl) (by kernel_rfl) (by kernel_rfl) (by kernel_rfl) (fun _ _ _ h => h) (Or.inl ⟨by rfl, ?hq33_15⟩) (by assumption) ?rq33_15
          case hq33_15 => (intro wS hSw; (try dsimp only at hSw); have hcq0 := cn hSw JA0; have hcq1 := cn hSw JA1; go_simp; try (with_reducible rfl))
          (try simp only [Act.put, List.setIfInBounds_toArray, List.set_cons_zero, List.set_cons_succ])
          refine take_d (i := 17) (v := ?vq33_16) rfl (by rfl) (by kernel_rfl) (by kernel_rfl) (by kernel_rfl) (fun _ _ _ h => h) (Or.inl ⟨by rfl, ?hq33_16⟩) (by assumption) ?rq33_16
          case hq33_16 => (intro wS hSw; (try dsimp only at hSw); go_simp; try (with_reducible rfl))
          (try simp only [Act.put, List.setIfInBounds_toArray, List.set_cons_zero, List.set_cons_succ])
          refine take_d (i := 18) (v := ?vq33_17) rfl (by rfl) (by kernel_rfl) (by kernel_rfl) (by kernel_rfl) (fun _ _ _ h => h) (Or.inl ⟨by rfl, ?hq33_17⟩) (by assumption) ?rq33_17
          case hq33_17 => (intro wS hSw; (try dsimp only at hSw); have hcq0 := cn hSw JA0; have hcq1 := cn hSw JA1; go_simp; try (with_reducible rfl))
          (try simp only [Act.put, List.setIfInBounds_toArray, List.set_cons_zero, List.set_cons_succ])
          refine take_d (i := 19) (v := ?vq33_18) rfl (by rfl) (by kernel_rfl) (by kernel_rfl) (by kernel_rfl) (fun _ _ _ h => h) (Or.inl ⟨by rfl, ?hq33_18⟩) (by assumption) ?rq33_18
          case hq33_18 => (intro wS hSw; (try dsimp only at hSw); go_simp; try (with_reducible rfl))
          (try simp only [Act.put, List.setIfInBounds_toArray, List.set_cons_zero, List.set_cons_succ])
          refine wpAnyH_ready (rs := [15]) (by kernel_rfl) (by simp) ?_
          refine AllReadyH.cons rfl (fun K hK => ?_) AllReadyH.nil
          go_simp
          go_at_call 49
          refine (FR.out _).mono ?_
          rintro e wq33_19 ⟨rfl, bkq33_19⟩
          have hBn := below_next hBk bkq33_19
          clear hBk bkq33_19
          have hBk := hBn
          clear hBn
          try go_simp
          refine hK.out _ _ ?_ (fun hHeld => ?_)
          · (try dsimp only); exact hBk
          clear hK K
          (try simp only [Act.put, List.setIfInBounds_toArray, List.set_cons_zero, List.set_cons_succ])
          refine take_d (i := 16) (v := ?vq33_20) rfl (by rfl) (by kernel_rfl) (by kernel_rfl) (by kernel_rfl) (fun _ _ _ h => h) (Or.inl ⟨by rfl, ?hq33_20⟩) (by assumption) ?rq33_20
          case hq33_20 => (intro wS hSw; (try dsimp only at hSw); go_simp; try (with_reducible rfl))
          (try simp only [Act.put, List.setIfInBounds_toArray, List.set_cons_zero, List.set_cons_succ])
          refine take_d (i := 20) (v := ?vq33_21) rfl (by rfl) (by kernel_rfl) (by kernel_rfl) (by kernel_rfl) (fun _ _ _ h => h) (Or.inl ⟨by rfl, ?hq33_21⟩) (by assumption) ?rq33_21
          case hq33_21 => (intro wS hSw; (try dsimp only at hSw); go_simp; try (with_reducible rfl))
          (try simp only [Act.put, List.setIfInBounds_toArray, List.set_cons_zero, List.set_cons_succ])
          refine take_d (i := 21) (v := ?vq33_22) rfl (by rfl) (by kernel_rfl) (by kernel_rfl) (by kernel_rfl) (fun _ _ _ h => h) (Or.inl ⟨by rfl, ?hq33_22⟩) (by assumption) ?rq33_22
          case hq33_22 => (intro wS hSw; (try dsimp only at hSw); go_simp; try (with_reducible rfl))
          (try simp only [Act.put, List.setIfInBounds_toArray, List.set_cons_zero, List.set_cons_succ])
          refine take_d (i := 22) (v := ?vq33_23) rfl (by rfl) (by kernel_rfl) (by kernel_rfl) (by kernel_rfl) (fun _ _ _ h => h) (Or.inl ⟨by rfl, ?hq33_23⟩) (by assumption) ?rq33_23
          case hq33_23 => (intro wS hSw; (try dsimp only at hSw); go_simp; try (with_reducible rfl))
          (try simp only [Act.put, List.setIfInBounds_toArray, List.set_cons_zero, List.set_cons_succ])
          refine wpAnyH_done (by kernel_rfl) ?_ _
          clear JA0 JA1 JAl JB0 JB1 JBl JC0 JC1 JCl JJ0 JJ1 JJl JM0 JM1 JMl lB
          generalize wq33_19 = w18 at hBk ⊢
          replace JA := JA.below hBk
          replace JB := JB.below hBk
          replace JC := JC.below hBk
          replace JJ := JJ.below hBk
          replace JM := JM.below hBk
          replace B := below_next B hBk
          clear hBk
          go_wp2
          go_ret
          exact ⟨rfl, B⟩
    · skip
      clear mA mB
      have hNo : ca = true → cb = false := fun h => by
        cases hh : cb
        · rfl
        · exact absurd (cM.out h hh).1 (by decide)
      replace hNo := hid hNo
      clear cM
      have JA0 := JA.2.1
      have JA1 := JA.2.2
      have JAl := JA.1
      have JB0 := JB.2.1
      have JB1 := JB.2.2
      have JBl := JB.1
      have JC0 := JC.2.1
      have JC1 := JC.2.2
      have JCl := JC.1
      have JJ0 := JJ.2.1
      have JJ1 := JJ.2.2
      have JJl := JJ.1
      have lB := B.size
      go_wp2_with fail
      clear JA0 JA1 JAl JB0 JB1 JBl JC0 JC1 JCl JJ0 JJ1 JJl lB
      have JM : TC (w11.alloc (.cells #[.int .u64 (ub t0.1), .int .u64 (ub t0.2)] 24)) w11.heap.size t0 := TC.new rfl
      replace JA := JA.alloc (.cells #[.int .u64 (ub t0.1), .int .u64 (ub t0.2)] 24)
      replace JB := JB.alloc (.cells #[.int .u64 (ub t0.1), .int .u64 (ub t0.2)] 24)
      replace JC := JC.alloc (.cells #[.int .u64 (ub t0.1), .int .u64 (ub t0.2)] 24)
      replace JJ := JJ.alloc (.cells #[.int .u64 (ub t0.1), .int .u64 (ub t0.2)] 24)
      replace B := Below.alloc B B.size (.cells #[.int .u64 (ub t0.1), .int .u64 (ub t0.2)] 24)
      generalize w11.alloc (.cells #[.int .u64 (ub t0.1), .int .u64 (ub t0.2)] 24) = w12 at *
      generalize w11.heap.size = g2 at *
      have JA0 := JA.2.1
      have JA1 := JA.2.2
      have JAl := JA.1
      have JB0 := JB.2.1
      have JB1 := JB.2.2
      have JBl := JB.1
      have JC0 := JC.2.1
      have JC1 := JC.2.2
      have JCl := JC.1
      have JJ0 := JJ.2.1
      have JJ1 := JJ.2.2
      have JJl := JJ.1
      have JM0 := JM.2.1
      have JM1 := JM.2.2
      have JMl := JM.1
      have lB := B.size
      go_wp2_with fail
      refine (Ica.out _).mono ?_
      rintro e w13 ⟨rfl, z⟩
      clear JA0 JA1 JAl JB0 JB1 JBl JC0 JC1 JCl JJ0 JJ1 JJl JM0 JM1 JMl lB
      replace JA := JA.below z
      replace JB := JB.below z
      replace JC := JC.below z
      replace JJ := JJ.below z
      replace JM := JM.below z
      replace B := below_next B z
      clear z
      cases ca
      · skip
        have hce := hce.out
        have JA0 := JA.2.1
        have JA1 := JA.2.2
        have JAl := JA.1
        have JB0 := JB.2.1
        have JB1 := JB.2.2
        have JBl := JB.1
        have JC0 := JC.2.1
        have JC1 := JC.2.2
        have JCl := JC.1
        have JJ0 := JJ.2.1
        have JJ1 := JJ.2.2
        have JJl := JJ.1
        have JM0 := JM.2.1
        have JM1 := JM.2.2
        have JMl := JM.1
        have lB := B.size
        go_wp2_with fail
        refine wp_region_held_drew (S := (fun w' : World => Below w13.heap.size w13 w')) (by kernel_rfl) ?_ (fun hHeld => ?_)
        · (try dsimp only); first | (with_reducible exact below_dr _) | (with_reducible exact Below.refl _ _) | exact below_dr _
        have hBk := below_dr w13
        refine take_d (i := 0) (v := ?vq34_1) rfl (by rfl) (by kernel_rfl) (by kernel_rfl) (by kernel_rfl) (fun _ _ _ h => h) (Or.inl ⟨by rfl, ?hq34_1⟩) (by assumption) ?rq34_1
        case hq34_1 => (intro wS hSw; (try dsimp only at hSw); have hcq0 := cn hSw JA0; have hcq1 := cn hSw JA1; go_simp; try (with_reducible rfl))
        (try simp only [Act.put, List.setIfInBounds_toArray, List.set_cons_zero, List.set_cons_succ])
        refine take_d (i := 1) (v := ?vq34_2) rfl (by rfl) (by kernel_rfl) (by kernel_rfl) (by kernel_rfl) (fun _ _ _ h => h) (Or.inl ⟨by rfl, ?hq34_2⟩) (by assumption) ?rq34_2
        case hq34_2 => (intro wS hSw; (try dsimp only at hSw); go_simp; try (with_reducible rfl))
        (try simp only [Act.put, List.setIfInBounds_toArray, List.set_cons_zero, List.set_cons_succ])
        refine take_d (i := 2) (v := ?vq34_3) rfl (by rfl) (by kernel_rfl) (by kernel_rfl) (by kernel_rfl) (fun _ _ _ h => h) (Or.inl ⟨by rfl, ?hq34_3⟩) (by assumption) ?rq34_3
        case hq34_3 => (intro wS hSw; (try dsimp only at hSw); have hcq0 := cn hSw JA0; have hcq1 := cn hSw JA1; go_simp; try (with_reducible rfl))
        (try simp only [Act.put, List.setIfInBounds_toArray, List.set_cons_zero, List.set_cons_succ])
        refine wpAnyH_ready (rs := [3]) (by kernel_rfl) (by simp) ?_
        refine AllReadyH.cons rfl (fun K hK => ?_) AllReadyH.nil
        go_simp
        go_at_call 46
        refine (HL.out _).mono ?_
        rintro e wq34_4 ⟨rfl, bkq34_4⟩
        have hBn := below_next hBk bkq34_4
        clear hBk bkq34_4
        have hBk := hBn
        clear hBn
        try go_simp
        refine hK.out _ _ ?_ (fun hHeld => ?_)
        · (try dsimp only); exact hBk
        clear hK K
        (try simp only [Act.put, List.setIfInBounds_toArray, List.set_cons_zero, List.set_cons_succ])
        refine take_d (i := 4) (v := ?vq34_5) rfl (by rfl) (by kernel_rfl) (by kernel_rfl) (by kernel_rfl) (fun _ _ _ h => h) (Or.inl ⟨by rfl, ?hq34_5⟩) (by assumption) ?rq34_5
        case hq34_5 => (intro wS hSw; (try dsimp only at hSw); go_simp; try (with_reducible rfl))
        (try simp only [Act.put, List.setIfInBounds_toArray, List.set_cons_zero, List.set_cons_succ])
        refine take_d (i := 5) (v := ?vq34_6) rfl (by rfl) (by kernel_rfl) (by kernel_rfl) (by kernel_rfl) (fun _ _ _ h => h) (Or.inl ⟨by rfl, ?hq34_6⟩) (by assumption) ?rq34_6
        case hq34_6 => (intro wS hSw; (try dsimp only at hSw); have hcq0 := cn hSw JA0; have hcq1 := cn hSw JA1; go_simp; try (with_reducible rfl))
        (try simp only [Act.put, List.setIfInBounds_toArray, List.set_cons_zero, List.set_cons_succ])
        refine take_d (i := 6) (v := ?vq34_7) rfl (by rfl) (by kernel_rfl) (by kernel_rfl) (by kernel_rfl) (fun _ _ _ h => h) (Or.inl ⟨by rfl, ?hq34_7⟩) (by assumption) ?rq34_7
        case hq34_7 => (intro wS hSw; (try dsimp only at hSw); go_simp; try (with_reducible rfl))
        (try simp only [Act.put, List.setIfInBounds_toArray, List.set_cons_zero, List.set_cons_succ])
        refine take_d (i := 7) (v := ?vq34_8) rfl (by rfl) (by kernel_rfl) (by kernel_rfl) (by kernel_rfl) (fun _ _ _ h => h) (Or.inl ⟨by rfl, ?hq34_8⟩) (by assumption) ?rq34_8
        case hq34_8 => (intro wS hSw; (try dsimp only at hSw); have hcq0 := cn hSw JA0; have hcq1 := cn hSw JA1; go_simp; try (with_reducible rfl))
        (try simp only [Act.put, List.setIfInBounds_toArray, List.set_cons_zero, List.set_cons_succ])
        refine take_d (i := 8) (v := ?vq34_9) rfl (by rfl) (by kernel_rfl) (by kernel_rfl) (by kernel_rfl) (fun _ _ _ h => h) (Or.inl ⟨by rfl, ?hq34_9⟩) (by assumption) ?rq34_9
        case hq34_9 => (intro wS hSw; (try dsimp only at hSw); go_simp; try (with_reducible rfl))
        (try simp only [Act.put, List.setIfInBounds_toArray, List.set_cons_zero, List.set_cons_succ])
        refine take_d (i := 9) (v := ?vq34_10) rfl (by rfl) (by kernel_rfl) (by kernel_rfl) (by kernel_rfl) (fun _ _ _ h => h) (Or.inl ⟨by rfl, ?hq34_10⟩) (by assumption) ?rq34_10
        case hq34_10 => (intro wS hSw; (try dsimp only at hSw); have hcq0 := cn hSw JA0; have hcq1 := cn hSw JA1; go_simp; try (with_reducible rfl))
        (try simp only [Act.put, List.setIfInBounds_toArray, List.set_cons_zero, List.set_cons_succ])
        refine take_d (i := 10) (v := ?vq34_11) rfl (by rfl) (by kernel_rfl) (by kernel_rfl) (by kernel_rfl) (fun _ _ _ h => h) (Or.inl ⟨by rfl, ?hq34_11⟩) (by assumption) ?rq34_11
        case hq34_11 => (intro wS hSw; (try dsimp only at hSw); go_simp; try (with_reducible rfl))
        (try simp only [Act.put, List.setIfInBounds_toArray, List.set_cons_zero, List.set_cons_succ])
        refine wpAnyH_ready (rs := [11]) (by kernel_rfl) (by simp) ?_
        refine AllReadyH.cons rfl (fun K hK => ?_) AllReadyH.nil
        go_simp
        go_at_call 46
        refine (HT.out _).mono ?_
        rintro e wq34_12 ⟨rfl, bkq34_12⟩
        have hBn := below_next hBk bkq34_12
        clear hBk bkq34_12
        have hBk := hBn
        clear hBn
        try go_simp
        refine hK.out _ _ ?_ (fun hHeld => ?_)
        · (try dsimp only); exact hBk
        clear hK K
        (try simp only [Act.put, List.setIfInBounds_toArray, List.set_cons_zero, List.set_cons_succ])
        refine take_d (i := 12) (v := ?vq34_13) rfl (by rfl) (by kernel_rfl) (by kernel_rfl) (by kernel_rfl) (fun _ _ _ h => h) (Or.inl ⟨by rfl, ?hq34_13⟩) (by assumption) ?rq34_13
        case hq34_13 => (intro wS hSw; (try dsimp only at hSw); go_simp; try (with_reducible rfl))
        (try simp only [Act.put, List.setIfInBounds_toArray, List.set_cons_zero, List.set_cons_succ])
        refine take_d (i := 13) (v := ?vq34_14) rfl (by rfl) (by kernel_rfl) (by kernel_rfl) (by kernel_rfl) (fun _ _ _ h => h) (Or.inl ⟨by rfl, ?hq34_14⟩) (by assumption) ?rq34_14
        case hq34_14 => (intro wS hSw; (try dsimp only at hSw); go_simp; try (with_reducible rfl))
        (try simp only [Act.put, List.setIfInBounds_toArray, List.set_cons_zero, List.set_cons_succ])
        refine take_d (i := 14) (v := ?vq34_15) rfl (by rfl) (by kernel_rfl) (by kernel_rfl) (by kernel_rfl) (fun _ _ _ h => h) (Or.inl ⟨by rfl, ?hq34_15⟩) (by assumption) ?rq34_15
        case hq34_15 => (intro wS hSw; (try dsimp only at hSw); have hcq0 := cn hSw JA0; have hcq1 := cn hSw JA1; go_simp; try (with_reducible rfl))
        (try simp only [Act.put, List.setIfInBounds_toArray, List.set_cons_zero, List.set_cons_succ])
        refine take_d (i := 17) (v := ?vq34_16) rfl (by rfl) (by kernel_rfl) (by kernel_rfl) (by kernel_rfl) (fun _ _ _ h => h) (Or.inl ⟨by rfl, ?hq34_16⟩) (by assumption) ?rq34_16
        case hq34_16 => (intro wS hSw; (try dsimp only at hSw); go_simp; try (with_reducible rfl))
        (try simp only [Act.put, List.setIfInBounds_toArray, List.set_cons_zero, List.set_cons_succ])
        refine take_d (i := 18) (v := ?vq34_17) rfl (by rfl) (by kernel_rfl) (by kernel_rfl) (by kernel_rfl) (fun _ _ _ h => h) (Or.inl ⟨by rfl, ?hq34_17⟩) (by assumption) ?rq34_17
        case hq34_17 => (intro wS hSw; (try dsimp only at hSw); have hcq0 := cn hSw JA0; have hcq1 := cn hSw JA1; go_simp; try (with_reducible rfl))
        (try simp only [Act.put, List.setIfInBounds_toArray, List.set_cons_zero, List.set_cons_succ])
        refine take_d (i := 19) (v := ?vq34_18) rfl (by rfl) (by kernel_rfl) (by kernel_rfl) (by kernel_rfl) (fun _ _ _ h => h) (Or.inl ⟨by rfl, ?hq34_18⟩) (by assumption) ?rq34_18
        case hq34_18 => (intro wS hSw; (try dsimp only at hSw); go_simp; try (with_reducible rfl))
        (try simp only [Act.put, List.setIfInBounds_toArray, List.set_cons_zero, List.set_cons_succ])
        refine wpAnyH_ready (rs := [15]) (by kernel_rfl) (by simp) ?_
        refine AllReadyH.cons rfl (fun K hK => ?_) AllReadyH.nil
        go_simp
        go_at_call 49
        refine (FR.out _).mono ?_
        rintro e wq34_19 ⟨rfl, bkq34_19⟩
        have hBn := below_next hBk bkq34_19
        clear hBk bkq34_19
        have hBk := hBn
        clear hBn
        try go_simp
        refine hK.out _ _ ?_ (fun hHeld => ?_)
        · (try dsimp only); exact hBk
        clear hK K
        (try simp only [Act.put, List.setIfInBounds_toArray, List.set_cons_zero, List.set_cons_succ])
        refine take_d (i := 16) (v := ?vq34_20) rfl (by rfl) (by kernel_rfl) (by kernel_rfl) (by kernel_rfl) (fun _ _ _ h => h) (Or.inl ⟨by rfl, ?hq34_20⟩) (by assumption) ?rq34_20
        case hq34_20 => (intro wS hSw; (try dsimp only at hSw); go_simp; try (with_reducible rfl))
        (try simp only [Act.put, List.setIfInBounds_toArray, List.set_cons_zero, List.set_cons_succ])
        refine take_d (i := 20) (v := ?vq34_21) rfl (by rfl) (by kernel_rfl) (by kernel_rfl) (by kernel_rfl) (fun _ _ _ h => h) (Or.inl ⟨by rfl, ?hq34_21⟩) (by assumption) ?rq34_21
        case hq34_21 => (intro wS hSw; (try dsimp only at hSw); go_simp; try (with_reducible rfl))
        (try simp only [Act.put, List.setIfInBounds_toArray, List.set_cons_zero, List.set_cons_succ])
        refine take_d (i := 21) (v := ?vq34_22) rfl (by rfl) (by kernel_rfl) (by kernel_rfl) (by kernel_rfl) (fun _ _ _ h => h) (Or.inl ⟨by rfl, ?hq34_22⟩) (by assumption) ?rq34_22
        case hq34_22 => (intro wS hSw; (try dsimp only at hSw); go_simp; try (with_reducible rfl))
        (try simp only [Act.put, List.setIfInBounds_toArray, List.set_cons_zero, List.set_cons_succ])
        refine take_d (i := 22) (v := ?vq34_23) rfl (by rfl) (by kernel_rfl) (by kernel_rfl) (by kernel_rfl) (fun _ _ _ h => h) (Or.inl ⟨by rfl, ?hq34_23⟩) (by assumption) ?rq34_23
        case hq34_23 => (intro wS hSw; (try dsimp only at hSw); go_simp; try (with_reducible rfl))
        (try simp only [Act.put, List.setIfInBounds_toArray, List.set_cons_zero, List.set_cons_succ])
        refine wpAnyH_done (by kernel_rfl) ?_ _
        clear JA0 JA1 JAl JB0 JB1 JBl JC0 JC1 JCl JJ0 JJ1 JJl JM0 JM1 JMl lB
        generalize wq34_19 = w14 at hBk ⊢
        replace JA := JA.below hBk
        replace JB := JB.below hBk
        replace JC := JC.below hBk
        replace JJ := JJ.below hBk
        replace JM := JM.below hBk
        replace B := below_next B hBk
        clear hBk
        go_wp2
        go_ret
        exact ⟨rfl, B⟩
      · skip
        obtain rfl : cb = false := hNo.out (by trivial)
        have JA0 := JA.2.1
        have JA1 := JA.2.2
        have JAl := JA.1
        have JB0 := JB.2.1
        have JB1 := JB.2.2
        have JBl := JB.1
        have JC0 := JC.2.1
        have JC1 := JC.2.2
        have JCl := JC.1
        have JJ0 := JJ.2.1
        have JJ1 := JJ.2.2
        have JJl := JJ.1
        have JM0 := JM.2.1
        have JM1 := JM.2.2
        have JMl := JM.1
        have lB := B.size
        go_wp2_with fail
        refine (Icb.out _).mono ?_
        rintro e w14 ⟨rfl, z⟩
        clear JA0 JA1 JAl JB0 JB1 JBl JC0 JC1 JCl JJ0 JJ1 JJl JM0 JM1 JMl lB
        replace JA := JA.below z
        replace JB := JB.below z
        replace JC := JC.below z
        replace JJ := JJ.below z
        replace JM := JM.below z
        replace B := below_next B z
        clear z
        have hce := hce.out
        have JA0 := JA.2.1
        have JA1 := JA.2.2
        have JAl := JA.1
        have JB0 := JB.2.1
        have JB1 := JB.2.2
        have JBl := JB.1
        have JC0 := JC.2.1
        have JC1 := JC.2.2
        have JCl := JC.1
        have JJ0 := JJ.2.1
        have JJ1 := JJ.2.2
        have JJl := JJ.1
        have JM0 := JM.2.1
        have JM1 := JM.2.2
        have JMl := JM.1
        have lB := B.size
        go_wp2_with fail
        refine wp_region_held_drew (S := (fun w' : World => Below w14.heap.size w14 w')) (by kernel_rfl) ?_ (fun hHeld => ?_)
        · (try dsimp only); first | (with_reducible exact below_dr _) | (with_reducible exact Below.refl _ _) | exact below_dr _
        have hBk := below_dr w14
        refine take_d (i := 0) (v := ?vq35_1) rfl (by rfl) (by kernel_rfl) (by kernel_rfl) (by kernel_rfl) (fun _ _ _ h => h) (Or.inl ⟨by rfl, ?hq35_1⟩) (by assumption) ?rq35_1
        case hq35_1 => (intro wS hSw; (try dsimp only at hSw); have hcq0 := cn hSw JA0; have hcq1 := cn hSw JA1; go_simp; try (with_reducible rfl))
        (try simp only [Act.put, List.setIfInBounds_toArray, List.set_cons_zero, List.set_cons_succ])
        refine take_d (i := 1) (v := ?vq35_2) rfl (by rfl) (by kernel_rfl) (by kernel_rfl) (by kernel_rfl) (fun _ _ _ h => h) (Or.inl ⟨by rfl, ?hq35_2⟩) (by assumption) ?rq35_2
        case hq35_2 => (intro wS hSw; (try dsimp only at hSw); go_simp; try (with_reducible rfl))
        (try simp only [Act.put, List.setIfInBounds_toArray, List.set_cons_zero, List.set_cons_succ])
        refine take_d (i := 2) (v := ?vq35_3) rfl (by rfl) (by kernel_rfl) (by kernel_rfl) (by kernel_rfl) (fun _ _ _ h => h) (Or.inl ⟨by rfl, ?hq35_3⟩) (by assumption) ?rq35_3
        case hq35_3 => (intro wS hSw; (try dsimp only at hSw); have hcq0 := cn hSw JA0; have hcq1 := cn hSw JA1; go_simp; try (with_reducible rfl))
        (try simp only [Act.put, List.setIfInBounds_toArray, List.set_cons_zero, List.set_cons_succ])
        refine wpAnyH_ready (rs := [3]) (by kernel_rfl) (by simp) ?_
        refine AllReadyH.cons rfl (fun K hK => ?_) AllReadyH.nil
        go_simp
        go_at_call 46
        refine (HL.out _).mono ?_
        rintro e wq35_4 ⟨rfl, bkq35_4⟩
        have hBn := below_next hBk bkq35_4
        clear hBk bkq35_4
        have hBk := hBn
        clear hBn
        try go_simp
        refine hK.out _ _ ?_ (fun hHeld => ?_)
        · (try dsimp only); exact hBk
        clear hK K
        (try simp only [Act.put, List.setIfInBounds_toArray, List.set_cons_zero, List.set_cons_succ])
        refine take_d (i := 4) (v := ?vq35_5) rfl (by rfl) (by kernel_rfl) (by kernel_rfl) (by kernel_rfl) (fun _ _ _ h => h) (Or.inl ⟨by rfl, ?hq35_5⟩) (by assumption) ?rq35_5
        case hq35_5 => (intro wS hSw; (try dsimp only at hSw); go_simp; try (with_reducible rfl))
        (try simp only [Act.put, List.setIfInBounds_toArray, List.set_cons_zero, List.set_cons_succ])
        refine take_d (i := 5) (v := ?vq35_6) rfl (by rfl) (by kernel_rfl) (by kernel_rfl) (by kernel_rfl) (fun _ _ _ h => h) (Or.inl ⟨by rfl, ?hq35_6⟩) (by assumption) ?rq35_6
        case hq35_6 => (intro wS hSw; (try dsimp only at hSw); have hcq0 := cn hSw JA0; have hcq1 := cn hSw JA1; go_simp; try (with_reducible rfl))
        (try simp only [Act.put, List.setIfInBounds_toArray, List.set_cons_zero, List.set_cons_succ])
        refine take_d (i := 6) (v := ?vq35_7) rfl (by rfl) (by kernel_rfl) (by kernel_rfl) (by kernel_rfl) (fun _ _ _ h => h) (Or.inl ⟨by rfl, ?hq35_7⟩) (by assumption) ?rq35_7
        case hq35_7 => (intro wS hSw; (try dsimp only at hSw); go_simp; try (with_reducible rfl))
        (try simp only [Act.put, List.setIfInBounds_toArray, List.set_cons_zero, List.set_cons_succ])
        refine take_d (i := 7) (v := ?vq35_8) rfl (by rfl) (by kernel_rfl) (by kernel_rfl) (by kernel_rfl) (fun _ _ _ h => h) (Or.inl ⟨by rfl, ?hq35_8⟩) (by assumption) ?rq35_8
        case hq35_8 => (intro wS hSw; (try dsimp only at hSw); have hcq0 := cn hSw JA0; have hcq1 := cn hSw JA1; go_simp; try (with_reducible rfl))
        (try simp only [Act.put, List.setIfInBounds_toArray, List.set_cons_zero, List.set_cons_succ])
        refine take_d (i := 8) (v := ?vq35_9) rfl (by rfl) (by kernel_rfl) (by kernel_rfl) (by kernel_rfl) (fun _ _ _ h => h) (Or.inl ⟨by rfl, ?hq35_9⟩) (by assumption) ?rq35_9
        case hq35_9 => (intro wS hSw; (try dsimp only at hSw); go_simp; try (with_reducible rfl))
        (try simp only [Act.put, List.setIfInBounds_toArray, List.set_cons_zero, List.set_cons_succ])
        refine take_d (i := 9) (v := ?vq35_10) rfl (by rfl) (by kernel_rfl) (by kernel_rfl) (by kernel_rfl) (fun _ _ _ h => h) (Or.inl ⟨by rfl, ?hq35_10⟩) (by assumption) ?rq35_10
        case hq35_10 => (intro wS hSw; (try dsimp only at hSw); have hcq0 := cn hSw JA0; have hcq1 := cn hSw JA1; go_simp; try (with_reducible rfl))
        (try simp only [Act.put, List.setIfInBounds_toArray, List.set_cons_zero, List.set_cons_succ])
        refine take_d (i := 10) (v := ?vq35_11) rfl (by rfl) (by kernel_rfl) (by kernel_rfl) (by kernel_rfl) (fun _ _ _ h => h) (Or.inl ⟨by rfl, ?hq35_11⟩) (by assumption) ?rq35_11
        case hq35_11 => (intro wS hSw; (try dsimp only at hSw); go_simp; try (with_reducible rfl))
        (try simp only [Act.put, List.setIfInBounds_toArray, List.set_cons_zero, List.set_cons_succ])
        refine wpAnyH_ready (rs := [11]) (by kernel_rfl) (by simp) ?_
        refine AllReadyH.cons rfl (fun K hK => ?_) AllReadyH.nil
        go_simp
        go_at_call 46
        refine (HT.out _).mono ?_
        rintro e wq35_12 ⟨rfl, bkq35_12⟩
        have hBn := below_next hBk bkq35_12
        clear hBk bkq35_12
        have hBk := hBn
        clear hBn
        try go_simp
        refine hK.out _ _ ?_ (fun hHeld => ?_)
        · (try dsimp only); exact hBk
        clear hK K
        (try simp only [Act.put, List.setIfInBounds_toArray, List.set_cons_zero, List.set_cons_succ])
        refine take_d (i := 12) (v := ?vq35_13) rfl (by rfl) (by kernel_rfl) (by kernel_rfl) (by kernel_rfl) (fun _ _ _ h => h) (Or.inl ⟨by rfl, ?hq35_13⟩) (by assumption) ?rq35_13
        case hq35_13 => (intro wS hSw; (try dsimp only at hSw); go_simp; try (with_reducible rfl))
        (try simp only [Act.put, List.setIfInBounds_toArray, List.set_cons_zero, List.set_cons_succ])
        refine take_d (i := 13) (v := ?vq35_14) rfl (by rfl) (by kernel_rfl) (by kernel_rfl) (by kernel_rfl) (fun _ _ _ h => h) (Or.inl ⟨by rfl, ?hq35_14⟩) (by assumption) ?rq35_14
        case hq35_14 => (intro wS hSw; (try dsimp only at hSw); go_simp; try (with_reducible rfl))
        (try simp only [Act.put, List.setIfInBounds_toArray, List.set_cons_zero, List.set_cons_succ])
        refine take_d (i := 14) (v := ?vq35_15) rfl (by rfl) (by kernel_rfl) (by kernel_rfl) (by kernel_rfl) (fun _ _ _ h => h) (Or.inl ⟨by rfl, ?hq35_15⟩) (by assumption) ?rq35_15
        case hq35_15 => (intro wS hSw; (try dsimp only at hSw); have hcq0 := cn hSw JA0; have hcq1 := cn hSw JA1; go_simp; try (with_reducible rfl))
        (try simp only [Act.put, List.setIfInBounds_toArray, List.set_cons_zero, List.set_cons_succ])
        refine take_d (i := 17) (v := ?vq35_16) rfl (by rfl) (by kernel_rfl) (by kernel_rfl) (by kernel_rfl) (fun _ _ _ h => h) (Or.inl ⟨by rfl, ?hq35_16⟩) (by assumption) ?rq35_16
        case hq35_16 => (intro wS hSw; (try dsimp only at hSw); go_simp; try (with_reducible rfl))
        (try simp only [Act.put, List.setIfInBounds_toArray, List.set_cons_zero, List.set_cons_succ])
        refine take_d (i := 18) (v := ?vq35_17) rfl (by rfl) (by kernel_rfl) (by kernel_rfl) (by kernel_rfl) (fun _ _ _ h => h) (Or.inl ⟨by rfl, ?hq35_17⟩) (by assumption) ?rq35_17
        case hq35_17 => (intro wS hSw; (try dsimp only at hSw); have hcq0 := cn hSw JA0; have hcq1 := cn hSw JA1; go_simp; try (with_reducible rfl))
        (try simp only [Act.put, List.setIfInBounds_toArray, List.set_cons_zero, List.set_cons_succ])
        refine take_d (i := 19) (v := ?vq35_18) rfl (by rfl) (by kernel_rfl) (by kernel_rfl) (by kernel_rfl) (fun _ _ _ h => h) (Or.inl ⟨by rfl, ?hq35_18⟩) (by assumption) ?rq35_18
        case hq35_18 => (intro wS hSw; (try dsimp only at hSw); go_simp; try (with_reducible rfl))
        (try simp only [Act.put, List.setIfInBounds_toArray, List.set_cons_zero, List.set_cons_succ])
        refine wpAnyH_ready (rs := [15]) (by kernel_rfl) (by simp) ?_
        refine AllReadyH.cons rfl (fun K hK => ?_) AllReadyH.nil
        go_simp
        go_at_call 49
        refine (FR.out _).mono ?_
        rintro e wq35_19 ⟨rfl, bkq35_19⟩
        have hBn := below_next hBk bkq35_19
        clear hBk bkq35_19
        have hBk := hBn
        clear hBn
        try go_simp
        refine hK.out _ _ ?_ (fun hHeld => ?_)
        · (try dsimp only); exact hBk
        clear hK K
        (try simp only [Act.put, List.setIfInBounds_toArray, List.set_cons_zero, List.set_cons_succ])
        refine take_d (i := 16) (v := ?vq35_20) rfl (by rfl) (by kernel_rfl) (by kernel_rfl) (by kernel_rfl) (fun _ _ _ h => h) (Or.inl ⟨by rfl, ?hq35_20⟩) (by assumption) ?rq35_20
        case hq35_20 => (intro wS hSw; (try dsimp only at hSw); go_simp; try (with_reducible rfl))
        (try simp only [Act.put, List.setIfInBounds_toArray, List.set_cons_zero, List.set_cons_succ])
        refine take_d (i := 20) (v := ?vq35_21) rfl (by rfl) (by kernel_rfl) (by kernel_rfl) (by kernel_rfl) (fun _ _ _ h => h) (Or.inl ⟨by rfl, ?hq35_21⟩) (by assumption) ?rq35_21
        case hq35_21 => (intro wS hSw; (try dsimp only at hSw); go_simp; try (with_reducible rfl))
        (try simp only [Act.put, List.setIfInBounds_toArray, List.set_cons_zero, List.set_cons_succ])
        refine take_d (i := 21) (v := ?vq35_22) rfl (by rfl) (by kernel_rfl) (by kernel_rfl) (by kernel_rfl) (fun _ _ _ h => h) (Or.inl ⟨by rfl, ?hq35_22⟩) (by assumption) ?rq35_22
        case hq35_22 => (intro wS hSw; (try dsimp only at hSw); go_simp; try (with_reducible rfl))
        (try simp only [Act.put, List.setIfInBounds_toArray, List.set_cons_zero, List.set_cons_succ])
        refine take_d (i := 22) (v := ?vq35_23) rfl (by rfl) (by kernel_rfl) (by kernel_rfl) (by kernel_rfl) (fun _ _ _ h => h) (Or.inl ⟨by rfl, ?hq35_23⟩) (by assumption) ?rq35_23
        case hq35_23 => (intro wS hSw; (try dsimp only at hSw); go_simp; try (with_reducible rfl))
        (try simp only [Act.put, List.setIfInBounds_toArray, List.set_cons_zero, List.set_cons_succ])
        refine wpAnyH_done (by kernel_rfl) ?_ _
        clear JA0 JA1 JAl JB0 JB1 JBl JC0 JC1 JCl JJ0 JJ1 JJl JM0 JM1 JMl lB
        generalize wq35_19 = w15 at hBk ⊢
        replace JA := JA.below hBk
        replace JB := JB.below hBk
        replace JC := JC.below hBk
        replace JJ := JJ.below hBk
        replace JM := JM.below hBk
        replace B := below_next B hBk
        clear hBk
        go_wp2
        go_ret
        exact ⟨rfl, B⟩
  · skip
    have JA0 := JA.2.1
    have JA1 := JA.2.2
    have JAl := JA.1
    have JB0 := JB.2.1
    have JB1 := JB.2.2
    have JBl := JB.1
    have JC0 := JC.2.1
    have JC1 := JC.2.2
    have JCl := JC.1
    have JJ0 := JJ.2.1
    have JJ1 := JJ.2.2
    have JJl := JJ.1
    have lB := B.size
    go_wp2_with fail
    refine (Iaj.out _).mono ?_
    rintro e w8 ⟨rfl, z⟩
    clear JA0 JA1 JAl JB0 JB1 JBl JC0 JC1 JCl JJ0 JJ1 JJl lB
    replace JA := JA.below z
    replace JB := JB.below z
    replace JC := JC.below z
    replace JJ := JJ.below z
    replace B := below_next B z
    clear z
    have JA0 := JA.2.1
    have JA1 := JA.2.2
    have JAl := JA.1
    have JB0 := JB.2.1
    have JB1 := JB.2.2
    have JBl := JB.1
    have JC0 := JC.2.1
    have JC1 := JC.2.2
    have JCl := JC.1
    have JJ0 := JJ.2.1
    have JJ1 := JJ.2.2
    have JJl := JJ.1
    have lB := B.size
    go_wp2_with fail
    refine (Ibj.out _).mono ?_
    rintro e w9 ⟨rfl, z⟩
    clear JA0 JA1 JAl JB0 JB1 JBl JC0 JC1 JCl JJ0 JJ1 JJl lB
    replace JA := JA.below z
    replace JB := JB.below z
    replace JC := JC.below z
    replace JJ := JJ.below z
    replace B := below_next B z
    clear z
    have JA0 := JA.2.1
    have JA1 := JA.2.2
    have JAl := JA.1
    have JB0 := JB.2.1
    have JB1 := JB.2.2
    have JBl := JB.1
    have JC0 := JC.2.1
    have JC1 := JC.2.2
    have JCl := JC.1
    have JJ0 := JJ.2.1
    have JJ1 := JJ.2.2
    have JJl := JJ.1
    have lB := B.size
    go_wp2_with fail
    refine (Iac.out _).mono ?_
    rintro e w10 ⟨rfl, z⟩
    clear JA0 JA1 JAl JB0 JB1 JBl JC0 JC1 JCl JJ0 JJ1 JJl lB
    replace JA := JA.below z
    replace JB := JB.below z
    replace JC := JC.below z
    replace JJ := JJ.below z
    replace B := below_next B z
    clear z
    have JA0 := JA.2.1
    have JA1 := JA.2.2
    have JAl := JA.1
    have JB0 := JB.2.1
    have JB1 := JB.2.2
    have JBl := JB.1
    have JC0 := JC.2.1
    have JC1 := JC.2.2
    have JCl := JC.1
    have JJ0 := JJ.2.1
    have JJ1 := JJ.2.2
    have JJl := JJ.1
    have lB := B.size
    go_wp2_with fail
    refine (Ibc.out _).mono ?_
    rintro e w11 ⟨rfl, z⟩
    clear JA0 JA1 JAl JB0 JB1 JBl JC0 JC1 JCl JJ0 JJ1 JJl lB
    replace JA := JA.below z
    replace JB := JB.below z
    replace JC := JC.below z
    replace JJ := JJ.below z
    replace B := below_next B z
    clear z
    have JA0 := JA.2.1
    have JA1 := JA.2.2
    have JAl := JA.1
    have JB0 := JB.2.1
    have JB1 := JB.2.2
    have JBl := JB.1
    have JC0 := JC.2.1
    have JC1 := JC.2.2
    have JCl := JC.1
    have JJ0 := JJ.2.1
    have JJ1 := JJ.2.2
    have JJl := JJ.1
    have lB := B.size
    go_wp2_with fail
    refine (XM.out _).mono ?_
    rintro e w12 ⟨rfl, z⟩
    clear JA0 JA1 JAl JB0 JB1 JBl JC0 JC1 JCl JJ0 JJ1 JJl lB
    replace JA := JA.below z
    replace JB := JB.below z
    replace JC := JC.below z
    replace JJ := JJ.below z
    replace B := below_next B z
    clear z
    rcases (show mk = true ∨ mk = false by cases mk <;> simp) with rfl | rfl
    · skip
      obtain rfl : ma = true := mA.out (by trivial)
      obtain rfl : mb = true := mB.out (by trivial)
      clear mA mB
      have JA0 := JA.2.1
      have JA1 := JA.2.2
      have JAl := JA.1
      have JB0 := JB.2.1
      have JB1 := JB.2.2
      have JBl := JB.1
      have JC0 := JC.2.1
      have JC1 := JC.2.2
      have JCl := JC.1
      have JJ0 := JJ.2.1
      have JJ1 := JJ.2.2
      have JJl := JJ.1
      have lB := B.size
      go_wp2_with fail
      clear JA0 JA1 JAl JB0 JB1 JBl JC0 JC1 JCl JJ0 JJ1 JJl lB
      have JM : TC (w12.alloc (.cells #[.int .u64 (ub M0.1), .int .u64 (ub M0.2)] 24)) w12.heap.size M0 := TC.new rfl
      replace JA := JA.alloc (.cells #[.int .u64 (ub M0.1), .int .u64 (ub M0.2)] 24)
      replace JB := JB.alloc (.cells #[.int .u64 (ub M0.1), .int .u64 (ub M0.2)] 24)
      replace JC := JC.alloc (.cells #[.int .u64 (ub M0.1), .int .u64 (ub M0.2)] 24)
      replace JJ := JJ.alloc (.cells #[.int .u64 (ub M0.1), .int .u64 (ub M0.2)] 24)
      replace B := Below.alloc B B.size (.cells #[.int .u64 (ub M0.1), .int .u64 (ub M0.2)] 24)
      generalize w12.alloc (.cells #[.int .u64 (ub M0.1), .int .u64 (ub M0.2)] 24) = w13 at *
      generalize w12.heap.size = g2 at *
      have JA0 := JA.2.1
      have JA1 := JA.2.2
      have JAl := JA.1
      have JB0 := JB.2.1
      have JB1 := JB.2.2
      have JBl := JB.1
      have JC0 := JC.2.1
      have JC1 := JC.2.2
      have JCl := JC.1
      have JJ0 := JJ.2.1
      have JJ1 := JJ.2.2
      have JJl := JJ.1
      have JM0 := JM.2.1
      have JM1 := JM.2.2
      have JMl := JM.1
      have lB := B.size
      go_wp2_with fail
      refine (Ima.out _).mono ?_
      rintro e w14 ⟨rfl, z⟩
      clear JA0 JA1 JAl JB0 JB1 JBl JC0 JC1 JCl JJ0 JJ1 JJl JM0 JM1 JMl lB
      replace JA := JA.below z
      replace JB := JB.below z
      replace JC := JC.below z
      replace JJ := JJ.below z
      replace JM := JM.below z
      replace B := below_next B z
      clear z
      have JA0 := JA.2.1
      have JA1 := JA.2.2
      have JAl := JA.1
      have JB0 := JB.2.1
      have JB1 := JB.2.2
      have JBl := JB.1
      have JC0 := JC.2.1
      have JC1 := JC.2.2
      have JCl := JC.1
      have JJ0 := JJ.2.1
      have JJ1 := JJ.2.2
      have JJl := JJ.1
      have JM0 := JM.2.1
      have JM1 := JM.2.2
      have JMl := JM.1
      have lB := B.size
      go_wp2_with fail
      refine (Imb.out _).mono ?_
      rintro e w15 ⟨rfl, z⟩
      clear JA0 JA1 JAl JB0 JB1 JBl JC0 JC1 JCl JJ0 JJ1 JJl JM0 JM1 JMl lB
      replace JA := JA.below z
      replace JB := JB.below z
      replace JC := JC.below z
      replace JJ := JJ.below z
      replace JM := JM.below z
      replace B := below_next B z
      clear z
      have JA0 := JA.2.1
      have JA1 := JA.2.2
      have JAl := JA.1
      have JB0 := JB.2.1
      have JB1 := JB.2.2
      have JBl := JB.1
      have JC0 := JC.2.1
      have JC1 := JC.2.2
      have JCl := JC.1
      have JJ0 := JJ.2.1
      have JJ1 := JJ.2.2
      have JJl := JJ.1
      have JM0 := JM.2.1
      have JM1 := JM.2.2
      have JMl := JM.1
      have lB := B.size
      go_wp2_with fail
      refine (Ica.out _).mono ?_
      rintro e w16 ⟨rfl, z⟩
      clear JA0 JA1 JAl JB0 JB1 JBl JC0 JC1 JCl JJ0 JJ1 JJl JM0 JM1 JMl lB
      replace JA := JA.below z
      replace JB := JB.below z
      replace JC := JC.below z
      replace JJ := JJ.below z
      replace JM := JM.below z
      replace B := below_next B z
      clear z
      cases ca
      · skip
        have hce := hce.out
        have JA0 := JA.2.1
        have JA1 := JA.2.2
        have JAl := JA.1
        have JB0 := JB.2.1
        have JB1 := JB.2.2
        have JBl := JB.1
        have JC0 := JC.2.1
        have JC1 := JC.2.2
        have JCl := JC.1
        have JJ0 := JJ.2.1
        have JJ1 := JJ.2.2
        have JJl := JJ.1
        have JM0 := JM.2.1
        have JM1 := JM.2.2
        have JMl := JM.1
        have lB := B.size
        go_wp2_with fail
        refine wp_region_held_drew (S := (fun w' : World => Below w16.heap.size w16 w')) (by kernel_rfl) ?_ (fun hHeld => ?_)
        · (try dsimp only); first | (with_reducible exact below_dr _) | (with_reducible exact Below.refl _ _) | exact below_dr _
        have hBk := below_dr w16
        refine take_d (i := 0) (v := ?vq36_1) rfl (by rfl) (by kernel_rfl) (by kernel_rfl) (by kernel_rfl) (fun _ _ _ h => h) (Or.inl ⟨by rfl, ?hq36_1⟩) (by assumption) ?rq36_1
        case hq36_1 => (intro wS hSw; (try dsimp only at hSw); have hcq0 := cn hSw JA0; have hcq1 := cn hSw JA1; go_simp; try (with_reducible rfl))
        (try simp only [Act.put, List.setIfInBounds_toArray, List.set_cons_zero, List.set_cons_succ])
        refine take_d (i := 1) (v := ?vq36_2) rfl (by rfl) (by kernel_rfl) (by kernel_rfl) (by kernel_rfl) (fun _ _ _ h => h) (Or.inl ⟨by rfl, ?hq36_2⟩) (by assumption) ?rq36_2
        case hq36_2 => (intro wS hSw; (try dsimp only at hSw); go_simp; try (with_reducible rfl))
        (try simp only [Act.put, List.setIfInBounds_toArray, List.set_cons_zero, List.set_cons_succ])
        refine take_d (i := 2) (v := ?vq36_3) rfl (by rfl) (by kernel_rfl) (by kernel_rfl) (by kernel_rfl) (fun _ _ _ h => h) (Or.inl ⟨by rfl, ?hq36_3⟩) (by assumption) ?rq36_3
        case hq36_3 => (intro wS hSw; (try dsimp only at hSw); have hcq0 := cn hSw JA0; have hcq1 := cn hSw JA1; go_simp; try (with_reducible rfl))
        (try simp only [Act.put, List.setIfInBounds_toArray, List.set_cons_zero, List.set_cons_succ])
        refine wpAnyH_ready (rs := [3]) (by kernel_rfl) (by simp) ?_
        refine AllReadyH.cons rfl (fun K hK => ?_) AllReadyH.nil
        go_simp
        go_at_call 46
        refine (HL.out _).mono ?_
        rintro e wq36_4 ⟨rfl, bkq36_4⟩
        have hBn := below_next hBk bkq36_4
        clear hBk bkq36_4
        have hBk := hBn
        clear hBn
        try go_simp
        refine hK.out _ _ ?_ (fun hHeld => ?_)
        · (try dsimp only); exact hBk
        clear hK K
        (try simp only [Act.put, List.setIfInBounds_toArray, List.set_cons_zero, List.set_cons_succ])
        refine take_d (i := 4) (v := ?vq36_5) rfl (by rfl) (by kernel_rfl) (by kernel_rfl) (by kernel_rfl) (fun _ _ _ h => h) (Or.inl ⟨by rfl, ?hq36_5⟩) (by assumption) ?rq36_5
        case hq36_5 => (intro wS hSw; (try dsimp only at hSw); go_simp; try (with_reducible rfl))
        (try simp only [Act.put, List.setIfInBounds_toArray, List.set_cons_zero, List.set_cons_succ])
        refine take_d (i := 5) (v := ?vq36_6) rfl (by rfl) (by kernel_rfl) (by kernel_rfl) (by kernel_rfl) (fun _ _ _ h => h) (Or.inl ⟨by rfl, ?hq36_6⟩) (by assumption) ?rq36_6
        case hq36_6 => (intro wS hSw; (try dsimp only at hSw); have hcq0 := cn hSw JA0; have hcq1 := cn hSw JA1; go_simp; try (with_reducible rfl))
        (try simp only [Act.put, List.setIfInBounds_toArray, List.set_cons_zero, List.set_cons_succ])
        refine take_d (i := 6) (v := ?vq36_7) rfl (by rfl) (by kernel_rfl) (by kernel_rfl) (by kernel_rfl) (fun _ _ _ h => h) (Or.inl ⟨by rfl, ?hq36_7⟩) (by assumption) ?rq36_7
        case hq36_7 => (intro wS hSw; (try dsimp only at hSw); go_simp; try (with_reducible rfl))
        (try simp only [Act.put, List.setIfInBounds_toArray, List.set_cons_zero, List.set_cons_succ])
        refine take_d (i := 7) (v := ?vq36_8) rfl (by rfl) (by kernel_rfl) (by kernel_rfl) (by kernel_rfl) (fun _ _ _ h => h) (Or.inl ⟨by rfl, ?hq36_8⟩) (by assumption) ?rq36_8
        case hq36_8 => (intro wS hSw; (try dsimp only at hSw); have hcq0 := cn hSw JA0; have hcq1 := cn hSw JA1; go_simp; try (with_reducible rfl))
        (try simp only [Act.put, List.setIfInBounds_toArray, List.set_cons_zero, List.set_cons_succ])
        refine take_d (i := 8) (v := ?vq36_9) rfl (by rfl) (by kernel_rfl) (by kernel_rfl) (by kernel_rfl) (fun _ _ _ h => h) (Or.inl ⟨by rfl, ?hq36_9⟩) (by assumption) ?rq36_9
        case hq36_9 => (intro wS hSw; (try dsimp only at hSw); go_simp; try (with_reducible rfl))
        (try simp only [Act.put, List.setIfInBounds_toArray, List.set_cons_zero, List.set_cons_succ])
        refine take_d (i := 9) (v := ?vq36_10) rfl (by rfl) (by kernel_rfl) (by kernel_rfl) (by kernel_rfl) (fun _ _ _ h => h) (Or.inl ⟨by rfl, ?hq36_10⟩) (by assumption) ?rq36_10
        case hq36_10 => (intro wS hSw; (try dsimp only at hSw); have hcq0 := cn hSw JA0; have hcq1 := cn hSw JA1; go_simp; try (with_reducible rfl))
        (try simp only [Act.put, List.setIfInBounds_toArray, List.set_cons_zero, List.set_cons_succ])
        refine take_d (i := 10) (v := ?vq36_11) rfl (by rfl) (by kernel_rfl) (by kernel_rfl) (by kernel_rfl) (fun _ _ _ h => h) (Or.inl ⟨by rfl, ?hq36_11⟩) (by assumption) ?rq36_11
        case hq36_11 => (intro wS hSw; (try dsimp only at hSw); go_simp; try (with_reducible rfl))
        (try simp only [Act.put, List.setIfInBounds_toArray, List.set_cons_zero, List.set_cons_succ])
        refine wpAnyH_ready (rs := [11]) (by kernel_rfl) (by simp) ?_
        refine AllReadyH.cons rfl (fun K hK => ?_) AllReadyH.nil
        go_simp
        go_at_call 46
        refine (HT.out _).mono ?_
        rintro e wq36_12 ⟨rfl, bkq36_12⟩
        have hBn := below_next hBk bkq36_12
        clear hBk bkq36_12
        have hBk := hBn
        clear hBn
        try go_simp
        refine hK.out _ _ ?_ (fun hHeld => ?_)
        · (try dsimp only); exact hBk
        clear hK K
        (try simp only [Act.put, List.setIfInBounds_toArray, List.set_cons_zero, List.set_cons_succ])
        refine take_d (i := 12) (v := ?vq36_13) rfl (by rfl) (by kernel_rfl) (by kernel_rfl) (by kernel_rfl) (fun _ _ _ h => h) (Or.inl ⟨by rfl, ?hq36_13⟩) (by assumption) ?rq36_13
        case hq36_13 => (intro wS hSw; (try dsimp only at hSw); go_simp; try (with_reducible rfl))
        (try simp only [Act.put, List.setIfInBounds_toArray, List.set_cons_zero, List.set_cons_succ])
        refine take_d (i := 13) (v := ?vq36_14) rfl (by rfl) (by kernel_rfl) (by kernel_rfl) (by kernel_rfl) (fun _ _ _ h => h) (Or.inl ⟨by rfl, ?hq36_14⟩) (by assumption) ?rq36_14
        case hq36_14 => (intro wS hSw; (try dsimp only at hSw); go_simp; try (with_reducible rfl))
        (try simp only [Act.put, List.setIfInBounds_toArray, List.set_cons_zero, List.set_cons_succ])
        refine take_d (i := 14) (v := ?vq36_15) rfl (by rfl) (by kernel_rfl) (by kernel_rfl) (by kernel_rfl) (fun _ _ _ h => h) (Or.inl ⟨by rfl, ?hq36_15⟩) (by assumption) ?rq36_15
        case hq36_15 => (intro wS hSw; (try dsimp only at hSw); have hcq0 := cn hSw JA0; have hcq1 := cn hSw JA1; go_simp; try (with_reducible rfl))
        (try simp only [Act.put, List.setIfInBounds_toArray, List.set_cons_zero, List.set_cons_succ])
        refine take_d (i := 17) (v := ?vq36_16) rfl (by rfl) (by kernel_rfl) (by kernel_rfl) (by kernel_rfl) (fun _ _ _ h => h) (Or.inl ⟨by rfl, ?hq36_16⟩) (by assumption) ?rq36_16
        case hq36_16 => (intro wS hSw; (try dsimp only at hSw); go_simp; try (with_reducible rfl))
        (try simp only [Act.put, List.setIfInBounds_toArray, List.set_cons_zero, List.set_cons_succ])
        refine take_d (i := 18) (v := ?vq36_17) rfl (by rfl) (by kernel_rfl) (by kernel_rfl) (by kernel_rfl) (fun _ _ _ h => h) (Or.inl ⟨by rfl, ?hq36_17⟩) (by assumption) ?rq36_17
        case hq36_17 => (intro wS hSw; (try dsimp only at hSw); have hcq0 := cn hSw JA0; have hcq1 := cn hSw JA1; go_simp; try (with_reducible rfl))
        (try simp only [Act.put, List.setIfInBounds_toArray, List.set_cons_zero, List.set_cons_succ])
        refine take_d (i := 19) (v := ?vq36_18) rfl (by rfl) (by kernel_rfl) (by kernel_rfl) (by kernel_rfl) (fun _ _ _ h => h) (Or.inl ⟨by rfl, ?hq36_18⟩) (by assumption) ?rq36_18
        case hq36_18 => (intro wS hSw; (try dsimp only at hSw); go_simp; try (with_reducible rfl))
        (try simp only [Act.put, List.setIfInBounds_toArray, List.set_cons_zero, List.set_cons_succ])
        refine wpAnyH_ready (rs := [15]) (by kernel_rfl) (by simp) ?_
        refine AllReadyH.cons rfl (fun K hK => ?_) AllReadyH.nil
        go_simp
        go_at_call 49
        refine (FR.out _).mono ?_
        rintro e wq36_19 ⟨rfl, bkq36_19⟩
        have hBn := below_next hBk bkq36_19
        clear hBk bkq36_19
        have hBk := hBn
        clear hBn
        try go_simp
        refine hK.out _ _ ?_ (fun hHeld => ?_)
        · (try dsimp only); exact hBk
        clear hK K
        (try simp only [Act.put, List.setIfInBounds_toArray, List.set_cons_zero, List.set_cons_succ])
        refine take_d (i := 16) (v := ?vq36_20) rfl (by rfl) (by kernel_rfl) (by kernel_rfl) (by kernel_rfl) (fun _ _ _ h => h) (Or.inl ⟨by rfl, ?hq36_20⟩) (by assumption) ?rq36_20
        case hq36_20 => (intro wS hSw; (try dsimp only at hSw); go_simp; try (with_reducible rfl))
        (try simp only [Act.put, List.setIfInBounds_toArray, List.set_cons_zero, List.set_cons_succ])
        refine take_d (i := 20) (v := ?vq36_21) rfl (by rfl) (by kernel_rfl) (by kernel_rfl) (by kernel_rfl) (fun _ _ _ h => h) (Or.inl ⟨by rfl, ?hq36_21⟩) (by assumption) ?rq36_21
        case hq36_21 => (intro wS hSw; (try dsimp only at hSw); go_simp; try (with_reducible rfl))
        (try simp only [Act.put, List.setIfInBounds_toArray, List.set_cons_zero, List.set_cons_succ])
        refine take_d (i := 21) (v := ?vq36_22) rfl (by rfl) (by kernel_rfl) (by kernel_rfl) (by kernel_rfl) (fun _ _ _ h => h) (Or.inl ⟨by rfl, ?hq36_22⟩) (by assumption) ?rq36_22
        case hq36_22 => (intro wS hSw; (try dsimp only at hSw); go_simp; try (with_reducible rfl))
        (try simp only [Act.put, List.setIfInBounds_toArray, List.set_cons_zero, List.set_cons_succ])
        refine take_d (i := 22) (v := ?vq36_23) rfl (by rfl) (by kernel_rfl) (by kernel_rfl) (by kernel_rfl) (fun _ _ _ h => h) (Or.inl ⟨by rfl, ?hq36_23⟩) (by assumption) ?rq36_23
        case hq36_23 => (intro wS hSw; (try dsimp only at hSw); go_simp; try (with_reducible rfl))
        (try simp only [Act.put, List.setIfInBounds_toArray, List.set_cons_zero, List.set_cons_succ])
        refine wpAnyH_done (by kernel_rfl) ?_ _
        clear JA0 JA1 JAl JB0 JB1 JBl JC0 JC1 JCl JJ0 JJ1 JJl JM0 JM1 JMl lB
        generalize wq36_19 = w17 at hBk ⊢
        replace JA := JA.below hBk
        replace JB := JB.below hBk
        replace JC := JC.below hBk
        replace JJ := JJ.below hBk
        replace JM := JM.below hBk
        replace B := below_next B hBk
        clear hBk
        go_wp2
        go_ret
        exact ⟨rfl, B⟩
      · skip
        have JA0 := JA.2.1
        have JA1 := JA.2.2
        have JAl := JA.1
        have JB0 := JB.2.1
        have JB1 := JB.2.2
        have JBl := JB.1
        have JC0 := JC.2.1
        have JC1 := JC.2.2
        have JCl := JC.1
        have JJ0 := JJ.2.1
        have JJ1 := JJ.2.2
        have JJl := JJ.1
        have JM0 := JM.2.1
        have JM1 := JM.2.2
        have JMl := JM.1
        have lB := B.size
        go_wp2_with fail
        refine (Icb.out _).mono ?_
        rintro e w17 ⟨rfl, z⟩
        clear JA0 JA1 JAl JB0 JB1 JBl JC0 JC1 JCl JJ0 JJ1 JJl JM0 JM1 JMl lB
        replace JA := JA.below z
        replace JB := JB.below z
        replace JC := JC.below z
        replace JJ := JJ.below z
        replace JM := JM.below z
        replace B := below_next B z
        clear z
        cases cb
        · skip
          have hce := hce.out
          have JA0 := JA.2.1
          have JA1 := JA.2.2
          have JAl := JA.1
          have JB0 := JB.2.1
          have JB1 := JB.2.2
          have JBl := JB.1
          have JC0 := JC.2.1
          have JC1 := JC.2.2
          have JCl := JC.1
          have JJ0 := JJ.2.1
          have JJ1 := JJ.2.2
          have JJl := JJ.1
          have JM0 := JM.2.1
          have JM1 := JM.2.2
          have JMl := JM.1
          have lB := B.size
          go_wp2_with fail
          refine wp_region_held_drew (S := (fun w' : World => Below w17.heap.size w17 w')) (by kernel_rfl) ?_ (fun hHeld => ?_)
          · (try dsimp only); first | (with_reducible exact below_dr _) | (with_reducible exact Below.refl _ _) | exact below_dr _
          have hBk := below_dr w17
          refine take_d (i := 0) (v := ?vq37_1) rfl (by rfl) (by kernel_rfl) (by kernel_rfl) (by kernel_rfl) (fun _ _ _ h => h) (Or.inl ⟨by rfl, ?hq37_1⟩) (by assumption) ?rq37_1
          case hq37_1 => (intro wS hSw; (try dsimp only at hSw); have hcq0 := cn hSw JA0; have hcq1 := cn hSw JA1; go_simp; try (with_reducible rfl))
          (try simp only [Act.put, List.setIfInBounds_toArray, List.set_cons_zero, List.set_cons_succ])
          refine take_d (i := 1) (v := ?vq37_2) rfl (by rfl) (by kernel_rfl) (by kernel_rfl) (by kernel_rfl) (fun _ _ _ h => h) (Or.inl ⟨by rfl, ?hq37_2⟩) (by assumption) ?rq37_2
          case hq37_2 => (intro wS hSw; (try dsimp only at hSw); go_simp; try (with_reducible rfl))
          (try simp only [Act.put, List.setIfInBounds_toArray, List.set_cons_zero, List.set_cons_succ])
          refine take_d (i := 2) (v := ?vq37_3) rfl (by rfl) (by kernel_rfl) (by kernel_rfl) (by kernel_rfl) (fun _ _ _ h => h) (Or.inl ⟨by rfl, ?hq37_3⟩) (by assumption) ?rq37_3
          case hq37_3 => (intro wS hSw; (try dsimp only at hSw); have hcq0 := cn hSw JA0; have hcq1 := cn hSw JA1; go_simp; try (with_reducible rfl))
          (try simp only [Act.put, List.setIfInBounds_toArray, List.set_cons_zero, List.set_cons_succ])
          refine wpAnyH_ready (rs := [3]) (by kernel_rfl) (by simp) ?_
          refine AllReadyH.cons rfl (fun K hK => ?_) AllReadyH.nil
          go_simp
          go_at_call 46
          refine (HL.out _).mono ?_
          rintro e wq37_4 ⟨rfl, bkq37_4⟩
          have hBn := below_next hBk bkq37_4
          clear hBk bkq37_4
          have hBk := hBn
          clear hBn
          try go_simp
          refine hK.out _ _ ?_ (fun hHeld => ?_)
          · (try dsimp only); exact hBk
          clear hK K
          (try simp only [Act.put, List.setIfInBounds_toArray, List.set_cons_zero, List.set_cons_succ])
          refine take_d (i := 4) (v := ?vq37_5) rfl (by rfl) (by kernel_rfl) (by kernel_rfl) (by kernel_rfl) (fun _ _ _ h => h) (Or.inl ⟨by rfl, ?hq37_5⟩) (by assumption) ?rq37_5
          case hq37_5 => (intro wS hSw; (try dsimp only at hSw); go_simp; try (with_reducible rfl))
          (try simp only [Act.put, List.setIfInBounds_toArray, List.set_cons_zero, List.set_cons_succ])
          refine take_d (i := 5) (v := ?vq37_6) rfl (by rfl) (by kernel_rfl) (by kernel_rfl) (by kernel_rfl) (fun _ _ _ h => h) (Or.inl ⟨by rfl, ?hq37_6⟩) (by assumption) ?rq37_6
          case hq37_6 => (intro wS hSw; (try dsimp only at hSw); have hcq0 := cn hSw JA0; have hcq1 := cn hSw JA1; go_simp; try (with_reducible rfl))
          (try simp only [Act.put, List.setIfInBounds_toArray, List.set_cons_zero, List.set_cons_succ])
          refine take_d (i := 6) (v := ?vq37_7) rfl (by rfl) (by kernel_rfl) (by kernel_rfl) (by kernel_rfl) (fun _ _ _ h => h) (Or.inl ⟨by rfl, ?hq37_7⟩) (by assumption) ?rq37_7
          case hq37_7 => (intro wS hSw; (try dsimp only at hSw); go_simp; try (with_reducible rfl))
          (try simp only [Act.put, List.setIfInBounds_toArray, List.set_cons_zero, List.set_cons_succ])
          refine take_d (i := 7) (v := ?vq37_8) rfl (by rfl) (by kernel_rfl) (by kernel_rfl) (by kernel_rfl) (fun _ _ _ h => h) (Or.inl ⟨by rfl, ?hq37_8⟩) (by assumption) ?rq37_8
          case hq37_8 => (intro wS hSw; (try dsimp only at hSw); have hcq0 := cn hSw JA0; have hcq1 := cn hSw JA1; go_simp; try (with_reducible rfl))
          (try simp only [Act.put, List.setIfInBounds_toArray, List.set_cons_zero, List.set_cons_succ])
          refine take_d (i := 8) (v := ?vq37_9) rfl (by rfl) (by kernel_rfl) (by kernel_rfl) (by kernel_rfl) (fun _ _ _ h => h) (Or.inl ⟨by rfl, ?hq37_9⟩) (by assumption) ?rq37_9
          case hq37_9 => (intro wS hSw; (try dsimp only at hSw); go_simp; try (with_reducible rfl))
          (try simp only [Act.put, List.setIfInBounds_toArray, List.set_cons_zero, List.set_cons_succ])
          refine take_d (i := 9) (v := ?vq37_10) rfl (by rfl) (by kernel_rfl) (by kernel_rfl) (by kernel_rfl) (fun _ _ _ h => h) (Or.inl ⟨by rfl, ?hq37_10⟩) (by assumption) ?rq37_10
          case hq37_10 => (intro wS hSw; (try dsimp only at hSw); have hcq0 := cn hSw JA0; have hcq1 := cn hSw JA1; go_simp; try (with_reducible rfl))
          (try simp only [Act.put, List.setIfInBounds_toArray, List.set_cons_zero, List.set_cons_succ])
          refine take_d (i := 10) (v := ?vq37_11) rfl (by rfl) (by kernel_rfl) (by kernel_rfl) (by kernel_rfl) (fun _ _ _ h => h) (Or.inl ⟨by rfl, ?hq37_11⟩) (by assumption) ?rq37_11
          case hq37_11 => (intro wS hSw; (try dsimp only at hSw); go_simp; try (with_reducible rfl))
          (try simp only [Act.put, List.setIfInBounds_toArray, List.set_cons_zero, List.set_cons_succ])
          refine wpAnyH_ready (rs := [11]) (by kernel_rfl) (by simp) ?_
          refine AllReadyH.cons rfl (fun K hK => ?_) AllReadyH.nil
          go_simp
          go_at_call 46
          refine (HT.out _).mono ?_
          rintro e wq37_12 ⟨rfl, bkq37_12⟩
          have hBn := below_next hBk bkq37_12
          clear hBk bkq37_12
          have hBk := hBn
          clear hBn
          try go_simp
          refine hK.out _ _ ?_ (fun hHeld => ?_)
          · (try dsimp only); exact hBk
          clear hK K
          (try simp only [Act.put, List.setIfInBounds_toArray, List.set_cons_zero, List.set_cons_succ])
          refine take_d (i := 12) (v := ?vq37_13) rfl (by rfl) (by kernel_rfl) (by kernel_rfl) (by kernel_rfl) (fun _ _ _ h => h) (Or.inl ⟨by rfl, ?hq37_13⟩) (by assumption) ?rq37_13
          case hq37_13 => (intro wS hSw; (try dsimp only at hSw); go_simp; try (with_reducible rfl))
          (try simp only [Act.put, List.setIfInBounds_toArray, List.set_cons_zero, List.set_cons_succ])
          refine take_d (i := 13) (v := ?vq37_14) rfl (by rfl) (by kernel_rfl) (by kernel_rfl) (by kernel_rfl) (fun _ _ _ h => h) (Or.inl ⟨by rfl, ?hq37_14⟩) (by assumption) ?rq37_14
          case hq37_14 => (intro wS hSw; (try dsimp only at hSw); go_simp; try (with_reducible rfl))
          (try simp only [Act.put, List.setIfInBounds_toArray, List.set_cons_zero, List.set_cons_succ])
          refine take_d (i := 14) (v := ?vq37_15) rfl (by rfl) (by kernel_rfl) (by kernel_rfl) (by kernel_rfl) (fun _ _ _ h => h) (Or.inl ⟨by rfl, ?hq37_15⟩) (by assumption) ?rq37_15
          case hq37_15 => (intro wS hSw; (try dsimp only at hSw); have hcq0 := cn hSw JA0; have hcq1 := cn hSw JA1; go_simp; try (with_reducible rfl))
          (try simp only [Act.put, List.setIfInBounds_toArray, List.set_cons_zero, List.set_cons_succ])
          refine take_d (i := 17) (v := ?vq37_16) rfl (by rfl) (by kernel_rfl) (by kernel_rfl) (by kernel_rfl) (fun _ _ _ h => h) (Or.inl ⟨by rfl, ?hq37_16⟩) (by assumption) ?rq37_16
          case hq37_16 => (intro wS hSw; (try dsimp only at hSw); go_simp; try (with_reducible rfl))
          (try simp only [Act.put, List.setIfInBounds_toArray, List.set_cons_zero, List.set_cons_succ])
          refine take_d (i := 18) (v := ?vq37_17) rfl (by rfl) (by kernel_rfl) (by kernel_rfl) (by kernel_rfl) (fun _ _ _ h => h) (Or.inl ⟨by rfl, ?hq37_17⟩) (by assumption) ?rq37_17
          case hq37_17 => (intro wS hSw; (try dsimp only at hSw); have hcq0 := cn hSw JA0; have hcq1 := cn hSw JA1; go_simp; try (with_reducible rfl))
          (try simp only [Act.put, List.setIfInBounds_toArray, List.set_cons_zero, List.set_cons_succ])
          refine take_d (i := 19) (v := ?vq37_18) rfl (by rfl) (by kernel_rfl) (by kernel_rfl) (by kernel_rfl) (fun _ _ _ h => h) (Or.inl ⟨by rfl, ?hq37_18⟩) (by assumption) ?rq37_18
          case hq37_18 => (intro wS hSw; (try dsimp only at hSw); go_simp; try (with_reducible rfl))
          (try simp only [Act.put, List.setIfInBounds_toArray, List.set_cons_zero, List.set_cons_succ])
          refine wpAnyH_ready (rs := [15]) (by kernel_rfl) (by simp) ?_
          refine AllReadyH.cons rfl (fun K hK => ?_) AllReadyH.nil
          go_simp
          go_at_call 49
          refine (FR.out _).mono ?_
          rintro e wq37_19 ⟨rfl, bkq37_19⟩
          have hBn := below_next hBk bkq37_19
          clear hBk bkq37_19
          have hBk := hBn
          clear hBn
          try go_simp
          refine hK.out _ _ ?_ (fun hHeld => ?_)
          · (try dsimp only); exact hBk
          clear hK K
          (try simp only [Act.put, List.setIfInBounds_toArray, List.set_cons_zero, List.set_cons_succ])
          refine take_d (i := 16) (v := ?vq37_20) rfl (by rfl) (by kernel_rfl) (by kernel_rfl) (by kernel_rfl) (fun _ _ _ h => h) (Or.inl ⟨by rfl, ?hq37_20⟩) (by assumption) ?rq37_20
          case hq37_20 => (intro wS hSw; (try dsimp only at hSw); go_simp; try (with_reducible rfl))
          (try simp only [Act.put, List.setIfInBounds_toArray, List.set_cons_zero, List.set_cons_succ])
          refine take_d (i := 20) (v := ?vq37_21) rfl (by rfl) (by kernel_rfl) (by kernel_rfl) (by kernel_rfl) (fun _ _ _ h => h) (Or.inl ⟨by rfl, ?hq37_21⟩) (by assumption) ?rq37_21
          case hq37_21 => (intro wS hSw; (try dsimp only at hSw); go_simp; try (with_reducible rfl))
          (try simp only [Act.put, List.setIfInBounds_toArray, List.set_cons_zero, List.set_cons_succ])
          refine take_d (i := 21) (v := ?vq37_22) rfl (by rfl) (by kernel_rfl) (by kernel_rfl) (by kernel_rfl) (fun _ _ _ h => h) (Or.inl ⟨by rfl, ?hq37_22⟩) (by assumption) ?rq37_22
          case hq37_22 => (intro wS hSw; (try dsimp only at hSw); go_simp; try (with_reducible rfl))
          (try simp only [Act.put, List.setIfInBounds_toArray, List.set_cons_zero, List.set_cons_succ])
          refine take_d (i := 22) (v := ?vq37_23) rfl (by rfl) (by kernel_rfl) (by kernel_rfl) (by kernel_rfl) (fun _ _ _ h => h) (Or.inl ⟨by rfl, ?hq37_23⟩) (by assumption) ?rq37_23
          case hq37_23 => (intro wS hSw; (try dsimp only at hSw); go_simp; try (with_reducible rfl))
          (try simp only [Act.put, List.setIfInBounds_toArray, List.set_cons_zero, List.set_cons_succ])
          refine wpAnyH_done (by kernel_rfl) ?_ _
          clear JA0 JA1 JAl JB0 JB1 JBl JC0 JC1 JCl JJ0 JJ1 JJl JM0 JM1 JMl lB
          generalize wq37_19 = w18 at hBk ⊢
          replace JA := JA.below hBk
          replace JB := JB.below hBk
          replace JC := JC.below hBk
          replace JJ := JJ.below hBk
          replace JM := JM.below hBk
          replace B := below_next B hBk
          clear hBk
          go_wp2
          go_ret
          exact ⟨rfl, B⟩
        · skip
          obtain rfl : cm = true := (cM.out (by trivial) (by trivial)).2
          have JA0 := JA.2.1
          have JA1 := JA.2.2
          have JAl := JA.1
          have JB0 := JB.2.1
          have JB1 := JB.2.2
          have JBl := JB.1
          have JC0 := JC.2.1
          have JC1 := JC.2.2
          have JCl := JC.1
          have JJ0 := JJ.2.1
          have JJ1 := JJ.2.2
          have JJl := JJ.1
          have JM0 := JM.2.1
          have JM1 := JM.2.2
          have JMl := JM.1
          have lB := B.size
          go_wp2_with fail
          refine (Icm.out _).mono ?_
          rintro e w18 ⟨rfl, z⟩
          clear JA0 JA1 JAl JB0 JB1 JBl JC0 JC1 JCl JJ0 JJ1 JJl JM0 JM1 JMl lB
          replace JA := JA.below z
          replace JB := JB.below z
          replace JC := JC.below z
          replace JJ := JJ.below z
          replace JM := JM.below z
          replace B := below_next B z
          clear z
          have hce := hce.out
          have JA0 := JA.2.1
          have JA1 := JA.2.2
          have JAl := JA.1
          have JB0 := JB.2.1
          have JB1 := JB.2.2
          have JBl := JB.1
          have JC0 := JC.2.1
          have JC1 := JC.2.2
          have JCl := JC.1
          have JJ0 := JJ.2.1
          have JJ1 := JJ.2.2
          have JJl := JJ.1
          have JM0 := JM.2.1
          have JM1 := JM.2.2
          have JMl := JM.1
          have lB := B.size
          go_wp2_with fail
          refine wp_region_held_drew (S := (fun w' : World => Below w18.heap.size w18 w')) (by kernel_rfl) ?_ (fun hHeld => ?_)
          · (try dsimp only); first | (with_reducible exact below_dr _) | (with_reducible exact Below.refl _ _) | exact below_dr _
          have hBk := below_dr w18
          refine take_d (i := 0) (v := ?vq38_1) rfl (by rfl) (by kernel_rfl) (by kernel_rfl) (by kernel_rfl) (fun _ _ _ h => h) (Or.inl ⟨by rfl, ?hq38_1⟩) (by assumption) ?rq38_1
          case hq38_1 => (intro wS hSw; (try dsimp only at hSw); have hcq0 := cn hSw JA0; have hcq1 := cn hSw JA1; go_simp; try (with_reducible rfl))
          (try simp only [Act.put, List.setIfInBounds_toArray, List.set_cons_zero, List.set_cons_succ])
          refine take_d (i := 1) (v := ?vq38_2) rfl (by rfl) (by kernel_rfl) (by kernel_rfl) (by kernel_rfl) (fun _ _ _ h => h) (Or.inl ⟨by rfl, ?hq38_2⟩) (by assumption) ?rq38_2
          case hq38_2 => (intro wS hSw; (try dsimp only at hSw); go_simp; try (with_reducible rfl))
          (try simp only [Act.put, List.setIfInBounds_toArray, List.set_cons_zero, List.set_cons_succ])
          refine take_d (i := 2) (v := ?vq38_3) rfl (by rfl) (by kernel_rfl) (by kernel_rfl) (by kernel_rfl) (fun _ _ _ h => h) (Or.inl ⟨by rfl, ?hq38_3⟩) (by assumption) ?rq38_3
          case hq38_3 => (intro wS hSw; (try dsimp only at hSw); have hcq0 := cn hSw JA0; have hcq1 := cn hSw JA1; go_simp; try (with_reducible rfl))
          (try simp only [Act.put, List.setIfInBounds_toArray, List.set_cons_zero, List.set_cons_succ])
          refine wpAnyH_ready (rs := [3]) (by kernel_rfl) (by simp) ?_
          refine AllReadyH.cons rfl (fun K hK => ?_) AllReadyH.nil
          go_simp
          go_at_call 46
          refine (HL.out _).mono ?_
          rintro e wq38_4 ⟨rfl, bkq38_4⟩
          have hBn := below_next hBk bkq38_4
          clear hBk bkq38_4
          have hBk := hBn
          clear hBn
          try go_simp
          refine hK.out _ _ ?_ (fun hHeld => ?_)
          · (try dsimp only); exact hBk
          clear hK K
          (try simp only [Act.put, List.setIfInBounds_toArray, List.set_cons_zero, List.set_cons_succ])
          refine take_d (i := 4) (v := ?vq38_5) rfl (by rfl) (by kernel_rfl) (by kernel_rfl) (by kernel_rfl) (fun _ _ _ h => h) (Or.inl ⟨by rfl, ?hq38_5⟩) (by assumption) ?rq38_5
          case hq38_5 => (intro wS hSw; (try dsimp only at hSw); go_simp; try (with_reducible rfl))
          (try simp only [Act.put, List.setIfInBounds_toArray, List.set_cons_zero, List.set_cons_succ])
          refine take_d (i := 5) (v := ?vq38_6) rfl (by rfl) (by kernel_rfl) (by kernel_rfl) (by kernel_rfl) (fun _ _ _ h => h) (Or.inl ⟨by rfl, ?hq38_6⟩) (by assumption) ?rq38_6
          case hq38_6 => (intro wS hSw; (try dsimp only at hSw); have hcq0 := cn hSw JA0; have hcq1 := cn hSw JA1; go_simp; try (with_reducible rfl))
          (try simp only [Act.put, List.setIfInBounds_toArray, List.set_cons_zero, List.set_cons_succ])
          refine take_d (i := 6) (v := ?vq38_7) rfl (by rfl) (by kernel_rfl) (by kernel_rfl) (by kernel_rfl) (fun _ _ _ h => h) (Or.inl ⟨by rfl, ?hq38_7⟩) (by assumption) ?rq38_7
          case hq38_7 => (intro wS hSw; (try dsimp only at hSw); go_simp; try (with_reducible rfl))
          (try simp only [Act.put, List.setIfInBounds_toArray, List.set_cons_zero, List.set_cons_succ])
          refine take_d (i := 7) (v := ?vq38_8) rfl (by rfl) (by kernel_rfl) (by kernel_rfl) (by kernel_rfl) (fun _ _ _ h => h) (Or.inl ⟨by rfl, ?hq38_8⟩) (by assumption) ?rq38_8
          case hq38_8 => (intro wS hSw; (try dsimp only at hSw); have hcq0 := cn hSw JA0; have hcq1 := cn hSw JA1; go_simp; try (with_reducible rfl))
          (try simp only [Act.put, List.setIfInBounds_toArray, List.set_cons_zero, List.set_cons_succ])
          refine take_d (i := 8) (v := ?vq38_9) rfl (by rfl) (by kernel_rfl) (by kernel_rfl) (by kernel_rfl) (fun _ _ _ h => h) (Or.inl ⟨by rfl, ?hq38_9⟩) (by assumption) ?rq38_9
          case hq38_9 => (intro wS hSw; (try dsimp only at hSw); go_simp; try (with_reducible rfl))
          (try simp only [Act.put, List.setIfInBounds_toArray, List.set_cons_zero, List.set_cons_succ])
          refine take_d (i := 9) (v := ?vq38_10) rfl (by rfl) (by kernel_rfl) (by kernel_rfl) (by kernel_rfl) (fun _ _ _ h => h) (Or.inl ⟨by rfl, ?hq38_10⟩) (by assumption) ?rq38_10
          case hq38_10 => (intro wS hSw; (try dsimp only at hSw); have hcq0 := cn hSw JA0; have hcq1 := cn hSw JA1; go_simp; try (with_reducible rfl))
          (try simp only [Act.put, List.setIfInBounds_toArray, List.set_cons_zero, List.set_cons_succ])
          refine take_d (i := 10) (v := ?vq38_11) rfl (by rfl) (by kernel_rfl) (by kernel_rfl) (by kernel_rfl) (fun _ _ _ h => h) (Or.inl ⟨by rfl, ?hq38_11⟩) (by assumption) ?rq38_11
          case hq38_11 => (intro wS hSw; (try dsimp only at hSw); go_simp; try (with_reducible rfl))
          (try simp only [Act.put, List.setIfInBounds_toArray, List.set_cons_zero, List.set_cons_succ])
          refine wpAnyH_ready (rs := [11]) (by kernel_rfl) (by simp) ?_
          refine AllReadyH.cons rfl (fun K hK => ?_) AllReadyH.nil
          go_simp
          go_at_call 46
          refine (HT.out _).mono ?_
          rintro e wq38_12 ⟨rfl, bkq38_12⟩
          have hBn := below_next hBk bkq38_12
          clear hBk bkq38_12
          have hBk := hBn
          clear hBn
          try go_simp
          refine hK.out _ _ ?_ (fun hHeld => ?_)
          · (try dsimp only); exact hBk
          clear hK K
          (try simp only [Act.put, List.setIfInBounds_toArray, List.set_cons_zero, List.set_cons_succ])
          refine take_d (i := 12) (v := ?vq38_13) rfl (by rfl) (by kernel_rfl) (by kernel_rfl) (by kernel_rfl) (fun _ _ _ h => h) (Or.inl ⟨by rfl, ?hq38_13⟩) (by assumption) ?rq38_13
          case hq38_13 => (intro wS hSw; (try dsimp only at hSw); go_simp; try (with_reducible rfl))
          (try simp only [Act.put, List.setIfInBounds_toArray, List.set_cons_zero, List.set_cons_succ])
          refine take_d (i := 13) (v := ?vq38_14) rfl (by rfl) (by kernel_rfl) (by kernel_rfl) (by kernel_rfl) (fun _ _ _ h => h) (Or.inl ⟨by rfl, ?hq38_14⟩) (by assumption) ?rq38_14
          case hq38_14 => (intro wS hSw; (try dsimp only at hSw); go_simp; try (with_reducible rfl))
          (try simp only [Act.put, List.setIfInBounds_toArray, List.set_cons_zero, List.set_cons_succ])
          refine take_d (i := 14) (v := ?vq38_15) rfl (by rfl) (by kernel_rfl) (by kernel_rfl) (by kernel_rfl) (fun _ _ _ h => h) (Or.inl ⟨by rfl, ?hq38_15⟩) (by assumption) ?rq38_15
          case hq38_15 => (intro wS hSw; (try dsimp only at hSw); have hcq0 := cn hSw JA0; have hcq1 := cn hSw JA1; go_simp; try (with_reducible rfl))
          (try simp only [Act.put, List.setIfInBounds_toArray, List.set_cons_zero, List.set_cons_succ])
          refine take_d (i := 17) (v := ?vq38_16) rfl (by rfl) (by kernel_rfl) (by kernel_rfl) (by kernel_rfl) (fun _ _ _ h => h) (Or.inl ⟨by rfl, ?hq38_16⟩) (by assumption) ?rq38_16
          case hq38_16 => (intro wS hSw; (try dsimp only at hSw); go_simp; try (with_reducible rfl))
          (try simp only [Act.put, List.setIfInBounds_toArray, List.set_cons_zero, List.set_cons_succ])
          refine take_d (i := 18) (v := ?vq38_17) rfl (by rfl) (by kernel_rfl) (by kernel_rfl) (by kernel_rfl) (fun _ _ _ h => h) (Or.inl ⟨by rfl, ?hq38_17⟩) (by assumption) ?rq38_17
          case hq38_17 => (intro wS hSw; (try dsimp only at hSw); have hcq0 := cn hSw JA0; have hcq1 := cn hSw JA1; go_simp; try (with_reducible rfl))
          (try simp only [Act.put, List.setIfInBounds_toArray, List.set_cons_zero, List.set_cons_succ])
          refine take_d (i := 19) (v := ?vq38_18) rfl (by rfl) (by kernel_rfl) (by kernel_rfl) (by kernel_rfl) (fun _ _ _ h => h) (Or.inl ⟨by rfl, ?hq38_18⟩) (by assumption) ?rq38_18
          case hq38_18 => (intro wS hSw; (try dsimp only at hSw); go_simp; try (with_reducible rfl))
          (try simp only [Act.put, List.setIfInBounds_toArray, List.set_cons_zero, List.set_cons_succ])
          refine wpAnyH_ready (rs := [15]) (by kernel_rfl) (by simp) ?_
          refine AllReadyH.cons rfl (fun K hK => ?_) AllReadyH.nil
          go_simp
          go_at_call 49
          refine (FR.out _).mono ?_
          rintro e wq38_19 ⟨rfl, bkq38_19⟩
          have hBn := below_next hBk bkq38_19
          clear hBk bkq38_19
          have hBk := hBn
          clear hBn
          try go_simp
          refine hK.out _ _ ?_ (fun hHeld => ?_)
          · (try dsimp only); exact hBk
          clear hK K
          (try simp only [Act.put, List.setIfInBounds_toArray, List.set_cons_zero, List.set_cons_succ])
          refine take_d (i := 16) (v := ?vq38_20) rfl (by rfl) (by kernel_rfl) (by kernel_rfl) (by kernel_rfl) (fun _ _ _ h => h) (Or.inl ⟨by rfl, ?hq38_20⟩) (by assumption) ?rq38_20
          case hq38_20 => (intro wS hSw; (try dsimp only at hSw); go_simp; try (with_reducible rfl))
          (try simp only [Act.put, List.setIfInBounds_toArray, List.set_cons_zero, List.set_cons_succ])
          refine take_d (i := 20) (v := ?vq38_21) rfl (by rfl) (by kernel_rfl) (by kernel_rfl) (by kernel_rfl) (fun _ _ _ h => h) (Or.inl ⟨by rfl, ?hq38_21⟩) (by assumption) ?rq38_21
          case hq38_21 => (intro wS hSw; (try dsimp only at hSw); go_simp; try (with_reducible rfl))
          (try simp only [Act.put, List.setIfInBounds_toArray, List.set_cons_zero, List.set_cons_succ])
          refine take_d (i := 21) (v := ?vq38_22) rfl (by rfl) (by kernel_rfl) (by kernel_rfl) (by kernel_rfl) (fun _ _ _ h => h) (Or.inl ⟨by rfl, ?hq38_22⟩) (by assumption) ?rq38_22
          case hq38_22 => (intro wS hSw; (try dsimp only at hSw); go_simp; try (with_reducible rfl))
          (try simp only [Act.put, List.setIfInBounds_toArray, List.set_cons_zero, List.set_cons_succ])
          refine take_d (i := 22) (v := ?vq38_23) rfl (by rfl) (by kernel_rfl) (by kernel_rfl) (by kernel_rfl) (fun _ _ _ h => h) (Or.inl ⟨by rfl, ?hq38_23⟩) (by assumption) ?rq38_23
          case hq38_23 => (intro wS hSw; (try dsimp only at hSw); go_simp; try (with_reducible rfl))
          (try simp only [Act.put, List.setIfInBounds_toArray, List.set_cons_zero, List.set_cons_succ])
          refine wpAnyH_done (by kernel_rfl) ?_ _
          clear JA0 JA1 JAl JB0 JB1 JBl JC0 JC1 JCl JJ0 JJ1 JJl JM0 JM1 JMl lB
          generalize wq38_19 = w19 at hBk ⊢
          replace JA := JA.below hBk
          replace JB := JB.below hBk
          replace JC := JC.below hBk
          replace JJ := JJ.below hBk
          replace JM := JM.below hBk
          replace B := below_next B hBk
          clear hBk
          go_wp2
          go_ret
          exact ⟨rfl, B⟩
    · skip
      clear mA mB
      have hNo : ca = true → cb = false := fun h => by
        cases hh : cb
        · rfl
        · exact absurd (cM.out h hh).1 (by decide)
      replace hNo := hid hNo
      clear cM
      have JA0 := JA.2.1
      have JA1 := JA.2.2
      have JAl := JA.1
      have JB0 := JB.2.1
      have JB1 := JB.2.2
      have JBl := JB.1
      have JC0 := JC.2.1
      have JC1 := JC.2.2
      have JCl := JC.1
      have JJ0 := JJ.2.1
      have JJ1 := JJ.2.2
      have JJl := JJ.1
      have lB := B.size
      go_wp2_with fail
      clear JA0 JA1 JAl JB0 JB1 JBl JC0 JC1 JCl JJ0 JJ1 JJl lB
      have JM : TC (w12.alloc (.cells #[.int .u64 (ub t0.1), .int .u64 (ub t0.2)] 24)) w12.heap.size t0 := TC.new rfl
      replace JA := JA.alloc (.cells #[.int .u64 (ub t0.1), .int .u64 (ub t0.2)] 24)
      replace JB := JB.alloc (.cells #[.int .u64 (ub t0.1), .int .u64 (ub t0.2)] 24)
      replace JC := JC.alloc (.cells #[.int .u64 (ub t0.1), .int .u64 (ub t0.2)] 24)
      replace JJ := JJ.alloc (.cells #[.int .u64 (ub t0.1), .int .u64 (ub t0.2)] 24)
      replace B := Below.alloc B B.size (.cells #[.int .u64 (ub t0.1), .int .u64 (ub t0.2)] 24)
      generalize w12.alloc (.cells #[.int .u64 (ub t0.1), .int .u64 (ub t0.2)] 24) = w13 at *
      generalize w12.heap.size = g2 at *
      have JA0 := JA.2.1
      have JA1 := JA.2.2
      have JAl := JA.1
      have JB0 := JB.2.1
      have JB1 := JB.2.2
      have JBl := JB.1
      have JC0 := JC.2.1
      have JC1 := JC.2.2
      have JCl := JC.1
      have JJ0 := JJ.2.1
      have JJ1 := JJ.2.2
      have JJl := JJ.1
      have JM0 := JM.2.1
      have JM1 := JM.2.2
      have JMl := JM.1
      have lB := B.size
      go_wp2_with fail
      refine (Ica.out _).mono ?_
      rintro e w14 ⟨rfl, z⟩
      clear JA0 JA1 JAl JB0 JB1 JBl JC0 JC1 JCl JJ0 JJ1 JJl JM0 JM1 JMl lB
      replace JA := JA.below z
      replace JB := JB.below z
      replace JC := JC.below z
      replace JJ := JJ.below z
      replace JM := JM.below z
      replace B := below_next B z
      clear z
      cases ca
      · skip
        have hce := hce.out
        have JA0 := JA.2.1
        have JA1 := JA.2.2
        have JAl := JA.1
        have JB0 := JB.2.1
        have JB1 := JB.2.2
        have JBl := JB.1
        have JC0 := JC.2.1
        have JC1 := JC.2.2
        have JCl := JC.1
        have JJ0 := JJ.2.1
        have JJ1 := JJ.2.2
        have JJl := JJ.1
        have JM0 := JM.2.1
        have JM1 := JM.2.2
        have JMl := JM.1
        have lB := B.size
        go_wp2_with fail
        refine wp_region_held_drew (S := (fun w' : World => Below w14.heap.size w14 w')) (by kernel_rfl) ?_ (fun hHeld => ?_)
        · (try dsimp only); first | (with_reducible exact below_dr _) | (with_reducible exact Below.refl _ _) | exact below_dr _
        have hBk := below_dr w14
        refine take_d (i := 0) (v := ?vq39_1) rfl (by rfl) (by kernel_rfl) (by kernel_rfl) (by kernel_rfl) (fun _ _ _ h => h) (Or.inl ⟨by rfl, ?hq39_1⟩) (by assumption) ?rq39_1
        case hq39_1 => (intro wS hSw; (try dsimp only at hSw); have hcq0 := cn hSw JA0; have hcq1 := cn hSw JA1; go_simp; try (with_reducible rfl))
        (try simp only [Act.put, List.setIfInBounds_toArray, List.set_cons_zero, List.set_cons_succ])
        refine take_d (i := 1) (v := ?vq39_2) rfl (by rfl) (by kernel_rfl) (by kernel_rfl) (by kernel_rfl) (fun _ _ _ h => h) (Or.inl ⟨by rfl, ?hq39_2⟩) (by assumption) ?rq39_2
        case hq39_2 => (intro wS hSw; (try dsimp only at hSw); go_simp; try (with_reducible rfl))
        (try simp only [Act.put, List.setIfInBounds_toArray, List.set_cons_zero, List.set_cons_succ])
        refine take_d (i := 2) (v := ?vq39_3) rfl (by rfl) (by kernel_rfl) (by kernel_rfl) (by kernel_rfl) (fun _ _ _ h => h) (Or.inl ⟨by rfl, ?hq39_3⟩) (by assumption) ?rq39_3
        case hq39_3 => (intro wS hSw; (try dsimp only at hSw); have hcq0 := cn hSw JA0; have hcq1 := cn hSw JA1; go_simp; try (with_reducible rfl))
        (try simp only [Act.put, List.setIfInBounds_toArray, List.set_cons_zero, List.set_cons_succ])
        refine wpAnyH_ready (rs := [3]) (by kernel_rfl) (by simp) ?_
        refine AllReadyH.cons rfl (fun K hK => ?_) AllReadyH.nil
        go_simp
        go_at_call 46
        refine (HL.out _).mono ?_
        rintro e wq39_4 ⟨rfl, bkq39_4⟩
        have hBn := below_next hBk bkq39_4
        clear hBk bkq39_4
        have hBk := hBn
        clear hBn
        try go_simp
        refine hK.out _ _ ?_ (fun hHeld => ?_)
        · (try dsimp only); exact hBk
        clear hK K
        (try simp only [Act.put, List.setIfInBounds_toArray, List.set_cons_zero, List.set_cons_succ])
        refine take_d (i := 4) (v := ?vq39_5) rfl (by rfl) (by kernel_rfl) (by kernel_rfl) (by kernel_rfl) (fun _ _ _ h => h) (Or.inl ⟨by rfl, ?hq39_5⟩) (by assumption) ?rq39_5
        case hq39_5 => (intro wS hSw; (try dsimp only at hSw); go_simp; try (with_reducible rfl))
        (try simp only [Act.put, List.setIfInBounds_toArray, List.set_cons_zero, List.set_cons_succ])
        refine take_d (i := 5) (v := ?vq39_6) rfl (by rfl) (by kernel_rfl) (by kernel_rfl) (by kernel_rfl) (fun _ _ _ h => h) (Or.inl ⟨by rfl, ?hq39_6⟩) (by assumption) ?rq39_6
        case hq39_6 => (intro wS hSw; (try dsimp only at hSw); have hcq0 := cn hSw JA0; have hcq1 := cn hSw JA1; go_simp; try (with_reducible rfl))
        (try simp only [Act.put, List.setIfInBounds_toArray, List.set_cons_zero, List.set_cons_succ])
        refine take_d (i := 6) (v := ?vq39_7) rfl (by rfl) (by kernel_rfl) (by kernel_rfl) (by kernel_rfl) (fun _ _ _ h => h) (Or.inl ⟨by rfl, ?hq39_7⟩) (by assumption) ?rq39_7
        case hq39_7 => (intro wS hSw; (try dsimp only at hSw); go_simp; try (with_reducible rfl))
        (try simp only [Act.put, List.setIfInBounds_toArray, List.set_cons_zero, List.set_cons_succ])
        refine take_d (i := 7) (v := ?vq39_8) rfl (by rfl) (by kernel_rfl) (by kernel_rfl) (by kernel_rfl) (fun _ _ _ h => h) (Or.inl ⟨by rfl, ?hq39_8⟩) (by assumption) ?rq39_8
        case hq39_8 => (intro wS hSw; (try dsimp only at hSw); have hcq0 := cn hSw JA0; have hcq1 := cn hSw JA1; go_simp; try (with_reducible rfl))
        (try simp only [Act.put, List.setIfInBounds_toArray, List.set_cons_zero, List.set_cons_succ])
        refine take_d (i := 8) (v := ?vq39_9) rfl (by rfl) (by kernel_rfl) (by kernel_rfl) (by kernel_rfl) (fun _ _ _ h => h) (Or.inl ⟨by rfl, ?hq39_9⟩) (by assumption) ?rq39_9
        case hq39_9 => (intro wS hSw; (try dsimp only at hSw); go_simp; try (with_reducible rfl))
        (try simp only [Act.put, List.setIfInBounds_toArray, List.set_cons_zero, List.set_cons_succ])
        refine take_d (i := 9) (v := ?vq39_10) rfl (by rfl) (by kernel_rfl) (by kernel_rfl) (by kernel_rfl) (fun _ _ _ h => h) (Or.inl ⟨by rfl, ?hq39_10⟩) (by assumption) ?rq39_10
        case hq39_10 => (intro wS hSw; (try dsimp only at hSw); have hcq0 := cn hSw JA0; have hcq1 := cn hSw JA1; go_simp; try (with_reducible rfl))
        (try simp only [Act.put, List.setIfInBounds_toArray, List.set_cons_zero, List.set_cons_succ])
        refine take_d (i := 10) (v := ?vq39_11) rfl (by rfl) (by kernel_rfl) (by kernel_rfl) (by kernel_rfl) (fun _ _ _ h => h) (Or.inl ⟨by rfl, ?hq39_11⟩) (by assumption) ?rq39_11
        case hq39_11 => (intro wS hSw; (try dsimp only at hSw); go_simp; try (with_reducible rfl))
        (try simp only [Act.put, List.setIfInBounds_toArray, List.set_cons_zero, List.set_cons_succ])
        refine wpAnyH_ready (rs := [11]) (by kernel_rfl) (by simp) ?_
        refine AllReadyH.cons rfl (fun K hK => ?_) AllReadyH.nil
        go_simp
        go_at_call 46
        refine (HT.out _).mono ?_
        rintro e wq39_12 ⟨rfl, bkq39_12⟩
        have hBn := below_next hBk bkq39_12
        clear hBk bkq39_12
        have hBk := hBn
        clear hBn
        try go_simp
        refine hK.out _ _ ?_ (fun hHeld => ?_)
        · (try dsimp only); exact hBk
        clear hK K
        (try simp only [Act.put, List.setIfInBounds_toArray, List.set_cons_zero, List.set_cons_succ])
        refine take_d (i := 12) (v := ?vq39_13) rfl (by rfl) (by kernel_rfl) (by kernel_rfl) (by kernel_rfl) (fun _ _ _ h => h) (Or.inl ⟨by rfl, ?hq39_13⟩) (by assumption) ?rq39_13
        case hq39_13 => (intro wS hSw; (try dsimp only at hSw); go_simp; try (with_reducible rfl))
        (try simp only [Act.put, List.setIfInBounds_toArray, List.set_cons_zero, List.set_cons_succ])
        refine take_d (i := 13) (v := ?vq39_14) rfl (by rfl) (by kernel_rfl) (by kernel_rfl) (by kernel_rfl) (fun _ _ _ h => h) (Or.inl ⟨by rfl, ?hq39_14⟩) (by assumption) ?rq39_14
        case hq39_14 => (intro wS hSw; (try dsimp only at hSw); go_simp; try (with_reducible rfl))
        (try simp only [Act.put, List.setIfInBounds_toArray, List.set_cons_zero, List.set_cons_succ])
        refine take_d (i := 14) (v := ?vq39_15) rfl (by rfl) (by kernel_rfl) (by kernel_rfl) (by kernel_rfl) (fun _ _ _ h => h) (Or.inl ⟨by rfl, ?hq39_15⟩) (by assumption) ?rq39_15
        case hq39_15 => (intro wS hSw; (try dsimp only at hSw); have hcq0 := cn hSw JA0; have hcq1 := cn hSw JA1; go_simp; try (with_reducible rfl))
        (try simp only [Act.put, List.setIfInBounds_toArray, List.set_cons_zero, List.set_cons_succ])
        refine take_d (i := 17) (v := ?vq39_16) rfl (by rfl) (by kernel_rfl) (by kernel_rfl) (by kernel_rfl) (fun _ _ _ h => h) (Or.inl ⟨by rfl, ?hq39_16⟩) (by assumption) ?rq39_16
        case hq39_16 => (intro wS hSw; (try dsimp only at hSw); go_simp; try (with_reducible rfl))
        (try simp only [Act.put, List.setIfInBounds_toArray, List.set_cons_zero, List.set_cons_succ])
        refine take_d (i := 18) (v := ?vq39_17) rfl (by rfl) (by kernel_rfl) (by kernel_rfl) (by kernel_rfl) (fun _ _ _ h => h) (Or.inl ⟨by rfl, ?hq39_17⟩) (by assumption) ?rq39_17
        case hq39_17 => (intro wS hSw; (try dsimp only at hSw); have hcq0 := cn hSw JA0; have hcq1 := cn hSw JA1; go_simp; try (with_reducible rfl))
        (try simp only [Act.put, List.setIfInBounds_toArray, List.set_cons_zero, List.set_cons_succ])
        refine take_d (i := 19) (v := ?vq39_18) rfl (by rfl) (by kernel_rfl) (by kernel_rfl) (by kernel_rfl) (fun _ _ _ h => h) (Or.inl ⟨by rfl, ?hq39_18⟩) (by assumption) ?rq39_18
        case hq39_18 => (intro wS hSw; (try dsimp only at hSw); go_simp; try (with_reducible rfl))
        (try simp only [Act.put, List.setIfInBounds_toArray, List.set_cons_zero, List.set_cons_succ])
        refine wpAnyH_ready (rs := [15]) (by kernel_rfl) (by simp) ?_
        refine AllReadyH.cons rfl (fun K hK => ?_) AllReadyH.nil
        go_simp
        go_at_call 49
        refine (FR.out _).mono ?_
        rintro e wq39_19 ⟨rfl, bkq39_19⟩
        have hBn := below_next hBk bkq39_19
        clear hBk bkq39_19
        have hBk := hBn
        clear hBn
        try go_simp
        refine hK.out _ _ ?_ (fun hHeld => ?_)
        · (try dsimp only); exact hBk
        clear hK K
        (try simp only [Act.put, List.setIfInBounds_toArray, List.set_cons_zero, List.set_cons_succ])
        refine take_d (i := 16) (v := ?vq39_20) rfl (by rfl) (by kernel_rfl) (by kernel_rfl) (by kernel_rfl) (fun _ _ _ h => h) (Or.inl ⟨by rfl, ?hq39_20⟩) (by assumption) ?rq39_20
        case hq39_20 => (intro wS hSw; (try dsimp only at hSw); go_simp; try (with_reducible rfl))
        (try simp only [Act.put, List.setIfInBounds_toArray, List.set_cons_zero, List.set_cons_succ])
        refine take_d (i := 20) (v := ?vq39_21) rfl (by rfl) (by kernel_rfl) (by kernel_rfl) (by kernel_rfl) (fun _ _ _ h => h) (Or.inl ⟨by rfl, ?hq39_21⟩) (by assumption) ?rq39_21
        case hq39_21 => (intro wS hSw; (try dsimp only at hSw); go_simp; try (with_reducible rfl))
        (try simp only [Act.put, List.setIfInBounds_toArray, List.set_cons_zero, List.set_cons_succ])
        refine take_d (i := 21) (v := ?vq39_22) rfl (by rfl) (by kernel_rfl) (by kernel_rfl) (by kernel_rfl) (fun _ _ _ h => h) (Or.inl ⟨by rfl, ?hq39_22⟩) (by assumption) ?rq39_22
        case hq39_22 => (intro wS hSw; (try dsimp only at hSw); go_simp; try (with_reducible rfl))
        (try simp only [Act.put, List.setIfInBounds_toArray, List.set_cons_zero, List.set_cons_succ])
        refine take_d (i := 22) (v := ?vq39_23) rfl (by rfl) (by kernel_rfl) (by kernel_rfl) (by kernel_rfl) (fun _ _ _ h => h) (Or.inl ⟨by rfl, ?hq39_23⟩) (by assumption) ?rq39_23
        case hq39_23 => (intro wS hSw; (try dsimp only at hSw); go_simp; try (with_reducible rfl))
        (try simp only [Act.put, List.setIfInBounds_toArray, List.set_cons_zero, List.set_cons_succ])
        refine wpAnyH_done (by kernel_rfl) ?_ _
        clear JA0 JA1 JAl JB0 JB1 JBl JC0 JC1 JCl JJ0 JJ1 JJl JM0 JM1 JMl lB
        generalize wq39_19 = w15 at hBk ⊢
        replace JA := JA.below hBk
        replace JB := JB.below hBk
        replace JC := JC.below hBk
        replace JJ := JJ.below hBk
        replace JM := JM.below hBk
        replace B := below_next B hBk
        clear hBk
        go_wp2
        go_ret
        exact ⟨rfl, B⟩
      · skip
        obtain rfl : cb = false := hNo.out (by trivial)
        have JA0 := JA.2.1
        have JA1 := JA.2.2
        have JAl := JA.1
        have JB0 := JB.2.1
        have JB1 := JB.2.2
        have JBl := JB.1
        have JC0 := JC.2.1
        have JC1 := JC.2.2
        have JCl := JC.1
        have JJ0 := JJ.2.1
        have JJ1 := JJ.2.2
        have JJl := JJ.1
        have JM0 := JM.2.1
        have JM1 := JM.2.2
        have JMl := JM.1
        have lB := B.size
        go_wp2_with fail
        refine (Icb.out _).mono ?_
        rintro e w15 ⟨rfl, z⟩
        clear JA0 JA1 JAl JB0 JB1 JBl JC0 JC1 JCl JJ0 JJ1 JJl JM0 JM1 JMl lB
        replace JA := JA.below z
        replace JB := JB.below z
        replace JC := JC.below z
        replace JJ := JJ.below z
        replace JM := JM.below z
        replace B := below_next B z
        clear z
        have hce := hce.out
        have JA0 := JA.2.1
        have JA1 := JA.2.2
        have JAl := JA.1
        have JB0 := JB.2.1
        have JB1 := JB.2.2
        have JBl := JB.1
        have JC0 := JC.2.1
        have JC1 := JC.2.2
        have JCl := JC.1
        have JJ0 := JJ.2.1
        have JJ1 := JJ.2.2
        have JJl := JJ.1
        have JM0 := JM.2.1
        have JM1 := JM.2.2
        have JMl := JM.1
        have lB := B.size
        go_wp2_with fail
        refine wp_region_held_drew (S := (fun w' : World => Below w15.heap.size w15 w')) (by kernel_rfl) ?_ (fun hHeld => ?_)
        · (try dsimp only); first | (with_reducible exact below_dr _) | (with_reducible exact Below.refl _ _) | exact below_dr _
        have hBk := below_dr w15
        refine take_d (i := 0) (v := ?vq40_1) rfl (by rfl) (by kernel_rfl) (by kernel_rfl) (by kernel_rfl) (fun _ _ _ h => h) (Or.inl ⟨by rfl, ?hq40_1⟩) (by assumption) ?rq40_1
        case hq40_1 => (intro wS hSw; (try dsimp only at hSw); have hcq0 := cn hSw JA0; have hcq1 := cn hSw JA1; go_simp; try (with_reducible rfl))
        (try simp only [Act.put, List.setIfInBounds_toArray, List.set_cons_zero, List.set_cons_succ])
        refine take_d (i := 1) (v := ?vq40_2) rfl (by rfl) (by kernel_rfl) (by kernel_rfl) (by kernel_rfl) (fun _ _ _ h => h) (Or.inl ⟨by rfl, ?hq40_2⟩) (by assumption) ?rq40_2
        case hq40_2 => (intro wS hSw; (try dsimp only at hSw); go_simp; try (with_reducible rfl))
        (try simp only [Act.put, List.setIfInBounds_toArray, List.set_cons_zero, List.set_cons_succ])
        refine take_d (i := 2) (v := ?vq40_3) rfl (by rfl) (by kernel_rfl) (by kernel_rfl) (by kernel_rfl) (fun _ _ _ h => h) (Or.inl ⟨by rfl, ?hq40_3⟩) (by assumption) ?rq40_3
        case hq40_3 => (intro wS hSw; (try dsimp only at hSw); have hcq0 := cn hSw JA0; have hcq1 := cn hSw JA1; go_simp; try (with_reducible rfl))
        (try simp only [Act.put, List.setIfInBounds_toArray, List.set_cons_zero, List.set_cons_succ])
        refine wpAnyH_ready (rs := [3]) (by kernel_rfl) (by simp) ?_
        refine AllReadyH.cons rfl (fun K hK => ?_) AllReadyH.nil
        go_simp
        go_at_call 46
        refine (HL.out _).mono ?_
        rintro e wq40_4 ⟨rfl, bkq40_4⟩
        have hBn := below_next hBk bkq40_4
        clear hBk bkq40_4
        have hBk := hBn
        clear hBn
        try go_simp
        refine hK.out _ _ ?_ (fun hHeld => ?_)
        · (try dsimp only); exact hBk
        clear hK K
        (try simp only [Act.put, List.setIfInBounds_toArray, List.set_cons_zero, List.set_cons_succ])
        refine take_d (i := 4) (v := ?vq40_5) rfl (by rfl) (by kernel_rfl) (by kernel_rfl) (by kernel_rfl) (fun _ _ _ h => h) (Or.inl ⟨by rfl, ?hq40_5⟩) (by assumption) ?rq40_5
        case hq40_5 => (intro wS hSw; (try dsimp only at hSw); go_simp; try (with_reducible rfl))
        (try simp only [Act.put, List.setIfInBounds_toArray, List.set_cons_zero, List.set_cons_succ])
        refine take_d (i := 5) (v := ?vq40_6) rfl (by rfl) (by kernel_rfl) (by kernel_rfl) (by kernel_rfl) (fun _ _ _ h => h) (Or.inl ⟨by rfl, ?hq40_6⟩) (by assumption) ?rq40_6
        case hq40_6 => (intro wS hSw; (try dsimp only at hSw); have hcq0 := cn hSw JA0; have hcq1 := cn hSw JA1; go_simp; try (with_reducible rfl))
        (try simp only [Act.put, List.setIfInBounds_toArray, List.set_cons_zero, List.set_cons_succ])
        refine take_d (i := 6) (v := ?vq40_7) rfl (by rfl) (by kernel_rfl) (by kernel_rfl) (by kernel_rfl) (fun _ _ _ h => h) (Or.inl ⟨by rfl, ?hq40_7⟩) (by assumption) ?rq40_7
        case hq40_7 => (intro wS hSw; (try dsimp only at hSw); go_simp; try (with_reducible rfl))
        (try simp only [Act.put, List.setIfInBounds_toArray, List.set_cons_zero, List.set_cons_succ])
        refine take_d (i := 7) (v := ?vq40_8) rfl (by rfl) (by kernel_rfl) (by kernel_rfl) (by kernel_rfl) (fun _ _ _ h => h) (Or.inl ⟨by rfl, ?hq40_8⟩) (by assumption) ?rq40_8
        case hq40_8 => (intro wS hSw; (try dsimp only at hSw); have hcq0 := cn hSw JA0; have hcq1 := cn hSw JA1; go_simp; try (with_reducible rfl))
        (try simp only [Act.put, List.setIfInBounds_toArray, List.set_cons_zero, List.set_cons_succ])
        refine take_d (i := 8) (v := ?vq40_9) rfl (by rfl) (by kernel_rfl) (by kernel_rfl) (by kernel_rfl) (fun _ _ _ h => h) (Or.inl ⟨by rfl, ?hq40_9⟩) (by assumption) ?rq40_9
        case hq40_9 => (intro wS hSw; (try dsimp only at hSw); go_simp; try (with_reducible rfl))
        (try simp only [Act.put, List.setIfInBounds_toArray, List.set_cons_zero, List.set_cons_succ])
        refine take_d (i := 9) (v := ?vq40_10) rfl (by rfl) (by kernel_rfl) (by kernel_rfl) (by kernel_rfl) (fun _ _ _ h => h) (Or.inl ⟨by rfl, ?hq40_10⟩) (by assumption) ?rq40_10
        case hq40_10 => (intro wS hSw; (try dsimp only at hSw); have hcq0 := cn hSw JA0; have hcq1 := cn hSw JA1; go_simp; try (with_reducible rfl))
        (try simp only [Act.put, List.setIfInBounds_toArray, List.set_cons_zero, List.set_cons_succ])
        refine take_d (i := 10) (v := ?vq40_11) rfl (by rfl) (by kernel_rfl) (by kernel_rfl) (by kernel_rfl) (fun _ _ _ h => h) (Or.inl ⟨by rfl, ?hq40_11⟩) (by assumption) ?rq40_11
        case hq40_11 => (intro wS hSw; (try dsimp only at hSw); go_simp; try (with_reducible rfl))
        (try simp only [Act.put, List.setIfInBounds_toArray, List.set_cons_zero, List.set_cons_succ])
        refine wpAnyH_ready (rs := [11]) (by kernel_rfl) (by simp) ?_
        refine AllReadyH.cons rfl (fun K hK => ?_) AllReadyH.nil
        go_simp
        go_at_call 46
        refine (HT.out _).mono ?_
        rintro e wq40_12 ⟨rfl, bkq40_12⟩
        have hBn := below_next hBk bkq40_12
        clear hBk bkq40_12
        have hBk := hBn
        clear hBn
        try go_simp
        refine hK.out _ _ ?_ (fun hHeld => ?_)
        · (try dsimp only); exact hBk
        clear hK K
        (try simp only [Act.put, List.setIfInBounds_toArray, List.set_cons_zero, List.set_cons_succ])
        refine take_d (i := 12) (v := ?vq40_13) rfl (by rfl) (by kernel_rfl) (by kernel_rfl) (by kernel_rfl) (fun _ _ _ h => h) (Or.inl ⟨by rfl, ?hq40_13⟩) (by assumption) ?rq40_13
        case hq40_13 => (intro wS hSw; (try dsimp only at hSw); go_simp; try (with_reducible rfl))
        (try simp only [Act.put, List.setIfInBounds_toArray, List.set_cons_zero, List.set_cons_succ])
        refine take_d (i := 13) (v := ?vq40_14) rfl (by rfl) (by kernel_rfl) (by kernel_rfl) (by kernel_rfl) (fun _ _ _ h => h) (Or.inl ⟨by rfl, ?hq40_14⟩) (by assumption) ?rq40_14
        case hq40_14 => (intro wS hSw; (try dsimp only at hSw); go_simp; try (with_reducible rfl))
        (try simp only [Act.put, List.setIfInBounds_toArray, List.set_cons_zero, List.set_cons_succ])
        refine take_d (i := 14) (v := ?vq40_15) rfl (by rfl) (by kernel_rfl) (by kernel_rfl) (by kernel_rfl) (fun _ _ _ h => h) (Or.inl ⟨by rfl, ?hq40_15⟩) (by assumption) ?rq40_15
        case hq40_15 => (intro wS hSw; (try dsimp only at hSw); have hcq0 := cn hSw JA0; have hcq1 := cn hSw JA1; go_simp; try (with_reducible rfl))
        (try simp only [Act.put, List.setIfInBounds_toArray, List.set_cons_zero, List.set_cons_succ])
        refine take_d (i := 17) (v := ?vq40_16) rfl (by rfl) (by kernel_rfl) (by kernel_rfl) (by kernel_rfl) (fun _ _ _ h => h) (Or.inl ⟨by rfl, ?hq40_16⟩) (by assumption) ?rq40_16
        case hq40_16 => (intro wS hSw; (try dsimp only at hSw); go_simp; try (with_reducible rfl))
        (try simp only [Act.put, List.setIfInBounds_toArray, List.set_cons_zero, List.set_cons_succ])
        refine take_d (i := 18) (v := ?vq40_17) rfl (by rfl) (by kernel_rfl) (by kernel_rfl) (by kernel_rfl) (fun _ _ _ h => h) (Or.inl ⟨by rfl, ?hq40_17⟩) (by assumption) ?rq40_17
        case hq40_17 => (intro wS hSw; (try dsimp only at hSw); have hcq0 := cn hSw JA0; have hcq1 := cn hSw JA1; go_simp; try (with_reducible rfl))
        (try simp only [Act.put, List.setIfInBounds_toArray, List.set_cons_zero, List.set_cons_succ])
        refine take_d (i := 19) (v := ?vq40_18) rfl (by rfl) (by kernel_rfl) (by kernel_rfl) (by kernel_rfl) (fun _ _ _ h => h) (Or.inl ⟨by rfl, ?hq40_18⟩) (by assumption) ?rq40_18
        case hq40_18 => (intro wS hSw; (try dsimp only at hSw); go_simp; try (with_reducible rfl))
        (try simp only [Act.put, List.setIfInBounds_toArray, List.set_cons_zero, List.set_cons_succ])
        refine wpAnyH_ready (rs := [15]) (by kernel_rfl) (by simp) ?_
        refine AllReadyH.cons rfl (fun K hK => ?_) AllReadyH.nil
        go_simp
        go_at_call 49
        refine (FR.out _).mono ?_
        rintro e wq40_19 ⟨rfl, bkq40_19⟩
        have hBn := below_next hBk bkq40_19
        clear hBk bkq40_19
        have hBk := hBn
        clear hBn
        try go_simp
        refine hK.out _ _ ?_ (fun hHeld => ?_)
        · (try dsimp only); exact hBk
        clear hK K
        (try simp only [Act.put, List.setIfInBounds_toArray, List.set_cons_zero, List.set_cons_succ])
        refine take_d (i := 16) (v := ?vq40_20) rfl (by rfl) (by kernel_rfl) (by kernel_rfl) (by kernel_rfl) (fun _ _ _ h => h) (Or.inl ⟨by rfl, ?hq40_20⟩) (by assumption) ?rq40_20
        case hq40_20 => (intro wS hSw; (try dsimp only at hSw); go_simp; try (with_reducible rfl))
        (try simp only [Act.put, List.setIfInBounds_toArray, List.set_cons_zero, List.set_cons_succ])
        refine take_d (i := 20) (v := ?vq40_21) rfl (by rfl) (by kernel_rfl) (by kernel_rfl) (by kernel_rfl) (fun _ _ _ h => h) (Or.inl ⟨by rfl, ?hq40_21⟩) (by assumption) ?rq40_21
        case hq40_21 => (intro wS hSw; (try dsimp only at hSw); go_simp; try (with_reducible rfl))
        (try simp only [Act.put, List.setIfInBounds_toArray, List.set_cons_zero, List.set_cons_succ])
        refine take_d (i := 21) (v := ?vq40_22) rfl (by rfl) (by kernel_rfl) (by kernel_rfl) (by kernel_rfl) (fun _ _ _ h => h) (Or.inl ⟨by rfl, ?hq40_22⟩) (by assumption) ?rq40_22
        case hq40_22 => (intro wS hSw; (try dsimp only at hSw); go_simp; try (with_reducible rfl))
        (try simp only [Act.put, List.setIfInBounds_toArray, List.set_cons_zero, List.set_cons_succ])
        refine take_d (i := 22) (v := ?vq40_23) rfl (by rfl) (by kernel_rfl) (by kernel_rfl) (by kernel_rfl) (fun _ _ _ h => h) (Or.inl ⟨by rfl, ?hq40_23⟩) (by assumption) ?rq40_23
        case hq40_23 => (intro wS hSw; (try dsimp only at hSw); go_simp; try (with_reducible rfl))
        (try simp only [Act.put, List.setIfInBounds_toArray, List.set_cons_zero, List.set_cons_succ])
        refine wpAnyH_done (by kernel_rfl) ?_ _
        clear JA0 JA1 JAl JB0 JB1 JBl JC0 JC1 JCl JJ0 JJ1 JJl JM0 JM1 JMl lB
        generalize wq40_19 = w16 at hBk ⊢
        replace JA := JA.below hBk
        replace JB := JB.below hBk
        replace JC := JC.below hBk
        replace JJ := JJ.below hBk
        replace JM := JM.below hBk
        replace B := below_next B hBk
        clear hBk
        go_wp2
        go_ret
        exact ⟨rfl, B⟩
end Go.Proofs.Ytoanbjnhoggpjaa
