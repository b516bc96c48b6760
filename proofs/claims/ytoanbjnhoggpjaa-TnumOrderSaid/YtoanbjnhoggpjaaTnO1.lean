/-
  TnumOrder: the three may be: the walk, way by way.
-/
import Derived.Test.YtoanbjnhoggpjaaTnOa
namespace Go.Proofs.Ytoanbjnhoggpjaa
set_option linter.unusedSimpArgs false
set_option linter.unusedVariables false
open Go.ChangeShapes Go.WideShapes Go.ChangeAt Go.RowKit

set_option maxRecDepth 100000 in
set_option maxHeartbeats 8000000 in
theorem ord_p10 (a b c : Tn) (ha : tmay a = true) (hb : tmay b = true) (hc : tmay c = true) (hab : tin a b = true) (hba : tin b a = false) (hbc : tin b c = false) (w : World) : Calls Try.prog 11 #[tv a, tv b, tv c] w fun e w' => e = .returned (.bool true) ∧ Below w.heap.size w w' := by
  have HAW := hid awake_true
  have O := ord_of a b c ha hb hc
  have Ma : ∀ W, Calls Try.prog 43 #[tv a] W fun e w' => e = .returned (.bool true) ∧ Below W.heap.size W w' := fun W => ha ▸ tMay_any a W
  have Mb : ∀ W, Calls Try.prog 43 #[tv b] W fun e w' => e = .returned (.bool true) ∧ Below W.heap.size W w' := fun W => hb ▸ tMay_any b W
  have Mc : ∀ W, Calls Try.prog 43 #[tv c] W fun e w' => e = .returned (.bool true) ∧ Below W.heap.size W w' := fun W => hc ▸ tMay_any c W
  have XJ : ∀ W, Calls Try.prog 45 #[tv a, tv b] W fun e w' => e = .returned (.tuple #[tv (joinT a b), .int .i64 0]) ∧ Below W.heap.size W w' := fun W => by have := tJoin_any a b W; rwa [show bothT a b (joinT a b) = joinT a b by unfold bothT; rw [ha, hb]; rfl, show bothE a b = 0 by unfold bothE; rw [ha, hb]; rfl] at this
  have XM : ∀ W, Calls Try.prog 44 #[tv a, tv b] W fun e w' => e = .returned (.tuple #[tv (if meetB a b then meetT a b else t0), .bool (meetB a b)]) ∧ Below W.heap.size W w' := fun W => tMeet_any a b W
  have AL : ∀ W, Calls Try.prog 50 #[] W fun e w' => e = .returned (tv allT) ∧ Below W.heap.size W w' := fun W => tAll_any W
  have Iaa : ∀ W, Calls Try.prog 48 #[tv a, tv a] W fun e w' => e = .returned (.bool true) ∧ Below W.heap.size W w' := fun W => O.aa ▸ tIn_any a a W
  have Ial : ∀ W, Calls Try.prog 48 #[tv a, tv allT] W fun e w' => e = .returned (.bool true) ∧ Below W.heap.size W w' := fun W => O.al ▸ tIn_any a allT W
  have Iab : ∀ W, Calls Try.prog 48 #[tv a, tv b] W fun e w' => e = .returned (.bool true) ∧ Below W.heap.size W w' := fun W => hab ▸ tIn_any a b W
  have Iac : ∀ W, Calls Try.prog 48 #[tv a, tv c] W fun e w' => e = .returned (.bool (tin a c)) ∧ Below W.heap.size W w' := fun W => tIn_any a c W
  have Iaj : ∀ W, Calls Try.prog 48 #[tv a, tv (joinT a b)] W fun e w' => e = .returned (.bool true) ∧ Below W.heap.size W w' := fun W => O.aj ▸ tIn_any a (joinT a b) W
  have Ibj : ∀ W, Calls Try.prog 48 #[tv b, tv (joinT a b)] W fun e w' => e = .returned (.bool true) ∧ Below W.heap.size W w' := fun W => O.bj ▸ tIn_any b (joinT a b) W
  have Ijc : ∀ W, Calls Try.prog 48 #[tv (joinT a b), tv c] W fun e w' => e = .returned (.bool (tin (joinT a b) c)) ∧ Below W.heap.size W w' := fun W => tIn_any (joinT a b) c W
  have Ima : ∀ W, Calls Try.prog 48 #[tv (meetT a b), tv a] W fun e w' => e = .returned (.bool (tin (meetT a b) a)) ∧ Below W.heap.size W w' := fun W => tIn_any (meetT a b) a W
  have Imb : ∀ W, Calls Try.prog 48 #[tv (meetT a b), tv b] W fun e w' => e = .returned (.bool (tin (meetT a b) b)) ∧ Below W.heap.size W w' := fun W => tIn_any (meetT a b) b W
  have Ica : ∀ W, Calls Try.prog 48 #[tv c, tv a] W fun e w' => e = .returned (.bool (tin c a)) ∧ Below W.heap.size W w' := fun W => tIn_any c a W
  have Icb : ∀ W, Calls Try.prog 48 #[tv c, tv b] W fun e w' => e = .returned (.bool (tin c b)) ∧ Below W.heap.size W w' := fun W => tIn_any c b W
  have Icm : ∀ W, Calls Try.prog 48 #[tv c, tv (meetT a b)] W fun e w' => e = .returned (.bool (tin c (meetT a b))) ∧ Below W.heap.size W w' := fun W => tIn_any c (meetT a b) W
  have HL : ∀ W, Calls Try.prog 46 #[tv a, .int .u64 (ub a.1)] W fun e w' => e = .returned (.bool true) ∧ Below W.heap.size W w' := fun W => has_low ha ▸ tHas_any a a.1 W
  have HT : ∀ W, Calls Try.prog 46 #[tv a, .int .u64 (ub (a.1 ||| a.2))] W fun e w' => e = .returned (.bool true) ∧ Below W.heap.size W w' := fun W => has_top ha ▸ tHas_any a (a.1 ||| a.2) W
  have FR : ∀ W, Calls Try.prog 49 #[tv a] W fun e w' => e = .returned (.int .i64 (cntU a.2 64 : Int)) ∧ Below W.heap.size W w' := fun W => by have := tFree_any a W; rwa [ha, if_pos rfl] at this
  have Iba : ∀ W, Calls Try.prog 48 #[tv b, tv a] W fun e w' => e = .returned (.bool false) ∧ Below W.heap.size W w' := fun W => hba ▸ tIn_any b a W
  have Ibc : ∀ W, Calls Try.prog 48 #[tv b, tv c] W fun e w' => e = .returned (.bool false) ∧ Below W.heap.size W w' := fun W => hbc ▸ tIn_any b c W
  have hce : (((cntU a.2 64 : Nat) : Int) == 0) = (a.2 == 0#64) := by
    have := cnt_zero a.2
    rw [Bool.eq_iff_iff, beq_iff_eq, beq_iff_eq, ← this]
    omega
  have tr := O.tr
  have jc := O.jc
  have mA := O.ma
  have mB := O.mb
  have cM := O.cm
  rw [hab] at tr
  rw [hbc] at tr jc
  clear O ha hb hc hab hba hbc
  generalize joinT a b = J at *
  generalize tin a c = ac at *
  generalize tin J c = jcB at *
  generalize ((cntU a.2 64 : Nat) : Int) = N at *
  generalize meetT a b = M0 at *
  generalize meetB a b = mk at *
  generalize tin M0 a = ma at *
  generalize tin M0 b = mb at *
  generalize tin c M0 = cm at *
  generalize tin c a = ca at *
  generalize tin c b = cb at *
  clear tr
  generalize allT = Y at *
  unfold tv at Ma Mb Mc XJ XM AL Iaa Ial Iab Iac Iaj Ibj Ijc Ima Imb Ica Icb Icm HL HT FR Iba Ibc ⊢
  replace Ma := hid Ma
  replace Mb := hid Mb
  replace Mc := hid Mc
  replace XJ := hid XJ
  replace XM := hid XM
  replace AL := hid AL
  replace Iaa := hid Iaa
  replace Ial := hid Ial
  replace Iab := hid Iab
  replace Iac := hid Iac
  replace Iaj := hid Iaj
  replace Ibj := hid Ibj
  replace Ijc := hid Ijc
  replace Ima := hid Ima
  replace Imb := hid Imb
  replace Ica := hid Ica
  replace Icb := hid Icb
  replace Icm := hid Icm
  replace HL := hid HL
  replace HT := hid HT
  replace FR := hid FR
  replace Iba := hid Iba
  replace Ibc := hid Ibc
  replace jc := hid jc
  replace mA := hid mA
  replace mB := hid mB
  replace cM := hid cM
  replace hce := hid hce
  go_enter Try.func11, Try.ntmps11
  go_wp2_with fail
  refine (HAW.out _).mono ?_
  rintro e w1 ⟨rfl, z⟩
  have JA : TC w1 w.heap.size a := ((TC.new rfl).alloc _ |>.alloc _).below z
  have JB : TC w1 (w.heap.size + 1) b := ((TC.new (by simp)).alloc _).below z
  have JC : TC w1 (w.heap.size + 1 + 1) c := (TC.new (by simp)).below z
  have B : Below w.heap.size w w1 := ((((Below.refl _ _).alloc (Nat.le_refl _) _).alloc (by simp) _).alloc (by simp; omega) _).trans (z.mono (by simp; omega))
  clear z
  have JA0 := JA.2.1
  have JA1 := JA.2.2
  have JAl := JA.1
  have JB0 := JB.2.1
  have JB1 := JB.2.2
  have JBl := JB.1
  have JC0 := JC.2.1
  have JC1 := JC.2.2
  have JCl := JC.1
  have lB := B.size
  go_wp2_with fail
  refine (Ma.out _).mono ?_
  rintro e w2 ⟨rfl, z⟩
  clear JA0 JA1 JAl JB0 JB1 JBl JC0 JC1 JCl lB
  replace JA := JA.below z
  replace JB := JB.below z
  replace JC := JC.below z
  replace B := below_next B z
  clear z
  have JA0 := JA.2.1
  have JA1 := JA.2.2
  have JAl := JA.1
  have JB0 := JB.2.1
  have JB1 := JB.2.2
  have JBl := JB.1
  have JC0 := JC.2.1
  have JC1 := JC.2.2
  have JCl := JC.1
  have lB := B.size
  go_wp2_with fail
  refine (Mb.out _).mono ?_
  rintro e w3 ⟨rfl, z⟩
  clear JA0 JA1 JAl JB0 JB1 JBl JC0 JC1 JCl lB
  replace JA := JA.below z
  replace JB := JB.below z
  replace JC := JC.below z
  replace B := below_next B z
  clear z
  have JA0 := JA.2.1
  have JA1 := JA.2.2
  have JAl := JA.1
  have JB0 := JB.2.1
  have JB1 := JB.2.2
  have JBl := JB.1
  have JC0 := JC.2.1
  have JC1 := JC.2.2
  have JCl := JC.1
  have lB := B.size
  go_wp2_with fail
  refine (Mc.out _).mono ?_
  rintro e w4 ⟨rfl, z⟩
  clear JA0 JA1 JAl JB0 JB1 JBl JC0 JC1 JCl lB
  replace JA := JA.below z
  replace JB := JB.below z
  replace JC := JC.below z
  replace B := below_next B z
  clear z
  have JA0 := JA.2.1
  have JA1 := JA.2.2
  have JAl := JA.1
  have JB0 := JB.2.1
  have JB1 := JB.2.2
  have JBl := JB.1
  have JC0 := JC.2.1
  have JC1 := JC.2.2
  have JCl := JC.1
  have lB := B.size
  go_wp2_with fail
  refine (XJ.out _).mono ?_
  rintro e w5 ⟨rfl, z⟩
  clear JA0 JA1 JAl JB0 JB1 JBl JC0 JC1 JCl lB
  replace JA := JA.below z
  replace JB := JB.below z
  replace JC := JC.below z
  replace B := below_next B z
  clear z
  have JA0 := JA.2.1
  have JA1 := JA.2.2
  have JAl := JA.1
  have JB0 := JB.2.1
  have JB1 := JB.2.2
  have JBl := JB.1
  have JC0 := JC.2.1
  have JC1 := JC.2.2
  have JCl := JC.1
  have lB := B.size
  go_wp2_with fail
  clear JA0 JA1 JAl JB0 JB1 JBl JC0 JC1 JCl lB
  have JJ : TC (w5.alloc (.cells #[.int .u64 (ub J.1), .int .u64 (ub J.2)] 24)) w5.heap.size J := TC.new rfl
  replace JA := JA.alloc (.cells #[.int .u64 (ub J.1), .int .u64 (ub J.2)] 24)
  replace JB := JB.alloc (.cells #[.int .u64 (ub J.1), .int .u64 (ub J.2)] 24)
  replace JC := JC.alloc (.cells #[.int .u64 (ub J.1), .int .u64 (ub J.2)] 24)
  replace B := Below.alloc B B.size (.cells #[.int .u64 (ub J.1), .int .u64 (ub J.2)] 24)
  generalize w5.alloc (.cells #[.int .u64 (ub J.1), .int .u64 (ub J.2)] 24) = w6 at *
  generalize w5.heap.size = g1 at *
  have JA0 := JA.2.1
  have JA1 := JA.2.2
  have JAl := JA.1
  have JB0 := JB.2.1
  have JB1 := JB.2.2
  have JBl := JB.1
  have JC0 := JC.2.1
  have JC1 := JC.2.2
  have JCl := JC.1
  have JJ0 := JJ.2.1
  have JJ1 := JJ.2.2
  have JJl := JJ.1
  have lB := B.size
  go_wp2_with fail
  refine wp_region_held_drew (S := (fun w' : World => Below w6.heap.size w6 w')) (by kernel_rfl) ?_ (fun hHeld => ?_)
  · (try dsimp only); first | (with_reducible exact below_dr _) | (with_reducible exact Below.refl _ _) | exact below_dr _
  have hBk := below_dr w6
  refine take_d (i := 0) (v := ?vordp10r1) rfl (by rfl) (by kernel_rfl) (by kernel_rfl) (by kernel_rfl) (fun _ _ _ h => h) (Or.inl ⟨by rfl, ?hordp10r1⟩) (by assumption) ?rordp10r1
  case hordp10r1 => (intro wS hSw; (try dsimp only at hSw); go_simp; try (with_reducible rfl))
  (try simp only [Act.put, List.setIfInBounds_toArray, List.set_cons_zero, List.set_cons_succ])
  refine take_d (i := 1) (v := ?vordp10r2) rfl (by rfl) (by kernel_rfl) (by kernel_rfl) (by kernel_rfl) (fun _ _ _ h => h) (Or.inl ⟨by rfl, ?hordp10r2⟩) (by assumption) ?rordp10r2
  case hordp10r2 => (intro wS hSw; (try dsimp only at hSw); go_simp; try (with_reducible rfl))
  (try simp only [Act.put, List.setIfInBounds_toArray, List.set_cons_zero, List.set_cons_succ])
  refine take_d (i := 2) (v := ?vordp10r3) rfl (by rfl) (by kernel_rfl) (by kernel_rfl) (by kernel_rfl) (fun _ _ _ h => h) (Or.inl ⟨by rfl, ?hordp10r3⟩) (by assumption) ?rordp10r3
  case hordp10r3 => (intro wS hSw; (try dsimp only at hSw); go_simp; try (with_reducible rfl))
  (try simp only [Act.put, List.setIfInBounds_toArray, List.set_cons_zero, List.set_cons_succ])
  refine take_d (i := 3) (v := ?vordp10r4) rfl (by rfl) (by kernel_rfl) (by kernel_rfl) (by kernel_rfl) (fun _ _ _ h => h) (Or.inl ⟨by rfl, ?hordp10r4⟩) (by assumption) ?rordp10r4
  case hordp10r4 => (intro wS hSw; (try dsimp only at hSw); have hcq0 := cn hSw JA0; have hcq1 := cn hSw JA1; go_simp; try (with_reducible rfl))
  (try simp only [Act.put, List.setIfInBounds_toArray, List.set_cons_zero, List.set_cons_succ])
  refine take_d (i := 4) (v := ?vordp10r5) rfl (by rfl) (by kernel_rfl) (by kernel_rfl) (by kernel_rfl) (fun _ _ _ h => h) (Or.inl ⟨by rfl, ?hordp10r5⟩) (by assumption) ?rordp10r5
  case hordp10r5 => (intro wS hSw; (try dsimp only at hSw); have hcq0 := cn hSw JA0; have hcq1 := cn hSw JA1; go_simp; try (with_reducible rfl))
  (try simp only [Act.put, List.setIfInBounds_toArray, List.set_cons_zero, List.set_cons_succ])
  refine wpAnyH_ready (rs := [5]) (by kernel_rfl) (by simp) ?_
  refine AllReadyH.cons rfl (fun K hK => ?_) AllReadyH.nil
  go_simp
  go_at_call 48
  refine (Iaa.out _).mono ?_
  rintro e wordp10r6 ⟨rfl, bkordp10r6⟩
  have hBn := below_next hBk bkordp10r6
  clear hBk bkordp10r6
  have hBk := hBn
  clear hBn
  try go_simp
  refine hK.out _ _ ?_ (fun hHeld => ?_)
  · (try dsimp only); exact hBk
  clear hK K
  (try simp only [Act.put, List.setIfInBounds_toArray, List.set_cons_zero, List.set_cons_succ])
  refine take_d (i := 6) (v := ?vordp10r7) rfl (by rfl) (by kernel_rfl) (by kernel_rfl) (by kernel_rfl) (fun _ _ _ h => h) (Or.inl ⟨by rfl, ?hordp10r7⟩) (by assumption) ?rordp10r7
  case hordp10r7 => (intro wS hSw; (try dsimp only at hSw); go_simp; try (with_reducible rfl))
  (try simp only [Act.put, List.setIfInBounds_toArray, List.set_cons_zero, List.set_cons_succ])
  refine take_d (i := 7) (v := ?vordp10r8) rfl (by rfl) (by kernel_rfl) (by kernel_rfl) (by kernel_rfl) (fun _ _ _ h => h) (Or.inl ⟨by rfl, ?hordp10r8⟩) (by assumption) ?rordp10r8
  case hordp10r8 => (intro wS hSw; (try dsimp only at hSw); go_simp; try (with_reducible rfl))
  (try simp only [Act.put, List.setIfInBounds_toArray, List.set_cons_zero, List.set_cons_succ])
  refine take_d (i := 8) (v := ?vordp10r9) rfl (by rfl) (by kernel_rfl) (by kernel_rfl) (by kernel_rfl) (fun _ _ _ h => h) (Or.inl ⟨by rfl, ?hordp10r9⟩) (by assumption) ?rordp10r9
  case hordp10r9 => (intro wS hSw; (try dsimp only at hSw); go_simp; try (with_reducible rfl))
  (try simp only [Act.put, List.setIfInBounds_toArray, List.set_cons_zero, List.set_cons_succ])
  refine take_d (i := 9) (v := ?vordp10r10) rfl (by rfl) (by kernel_rfl) (by kernel_rfl) (by kernel_rfl) (fun _ _ _ h => h) (Or.inl ⟨by rfl, ?hordp10r10⟩) (by assumption) ?rordp10r10
  case hordp10r10 => (intro wS hSw; (try dsimp only at hSw); have hcq0 := cn hSw JA0; have hcq1 := cn hSw JA1; go_simp; try (with_reducible rfl))
  (try simp only [Act.put, List.setIfInBounds_toArray, List.set_cons_zero, List.set_cons_succ])
  refine wpAnyH_ready (rs := [10]) (by kernel_rfl) (by simp) ?_
  refine AllReadyH.cons rfl (fun K hK => ?_) AllReadyH.nil
  go_simp
  go_at_call 50
  refine (AL.out _).mono ?_
  rintro e wordp10r11 ⟨rfl, bkordp10r11⟩
  have hBn := below_next hBk bkordp10r11
  clear hBk bkordp10r11
  have hBk := hBn
  clear hBn
  try go_simp
  refine hK.out _ _ ?_ (fun hHeld => ?_)
  · (try dsimp only); exact hBk
  clear hK K
  (try simp only [Act.put, List.setIfInBounds_toArray, List.set_cons_zero, List.set_cons_succ])
  refine wpAnyH_ready (rs := [11]) (by kernel_rfl) (by simp) ?_
  refine AllReadyH.cons rfl (fun K hK => ?_) AllReadyH.nil
  go_simp
  go_at_call 48
  refine (Ial.out _).mono ?_
  rintro e wordp10r12 ⟨rfl, bkordp10r12⟩
  have hBn := below_next hBk bkordp10r12
  clear hBk bkordp10r12
  have hBk := hBn
  clear hBn
  try go_simp
  refine hK.out _ _ ?_ (fun hHeld => ?_)
  · (try dsimp only); exact hBk
  clear hK K
  (try simp only [Act.put, List.setIfInBounds_toArray, List.set_cons_zero, List.set_cons_succ])
  refine take_d (i := 12) (v := ?vordp10r13) rfl (by rfl) (by kernel_rfl) (by kernel_rfl) (by kernel_rfl) (fun _ _ _ h => h) (Or.inl ⟨by rfl, ?hordp10r13⟩) (by assumption) ?rordp10r13
  case hordp10r13 => (intro wS hSw; (try dsimp only at hSw); go_simp; try (with_reducible rfl))
  (try simp only [Act.put, List.setIfInBounds_toArray, List.set_cons_zero, List.set_cons_succ])
  refine take_d (i := 13) (v := ?vordp10r14) rfl (by rfl) (by kernel_rfl) (by kernel_rfl) (by kernel_rfl) (fun _ _ _ h => h) (Or.inl ⟨by rfl, ?hordp10r14⟩) (by assumption) ?rordp10r14
  case hordp10r14 => (intro wS hSw; (try dsimp only at hSw); go_simp; try (with_reducible rfl))
  (try simp only [Act.put, List.setIfInBounds_toArray, List.set_cons_zero, List.set_cons_succ])
  refine take_d (i := 14) (v := ?vordp10r15) rfl (by rfl) (by kernel_rfl) (by kernel_rfl) (by kernel_rfl) (fun _ _ _ h => h) (Or.inl ⟨by rfl, ?hordp10r15⟩) (by assumption) ?rordp10r15
  case hordp10r15 => (intro wS hSw; (try dsimp only at hSw); go_simp; try (with_reducible rfl))
  (try simp only [Act.put, List.setIfInBounds_toArray, List.set_cons_zero, List.set_cons_succ])
  refine take_d (i := 15) (v := ?vordp10r16) rfl (by rfl) (by kernel_rfl) (by kernel_rfl) (by kernel_rfl) (fun _ _ _ h => h) (Or.inl ⟨by rfl, ?hordp10r16⟩) (by assumption) ?rordp10r16
  case hordp10r16 => (intro wS hSw; (try dsimp only at hSw); have hcq0 := cn hSw JA0; have hcq1 := cn hSw JA1; go_simp; try (with_reducible rfl))
  (try simp only [Act.put, List.setIfInBounds_toArray, List.set_cons_zero, List.set_cons_succ])
  refine take_d (i := 16) (v := ?vordp10r17) rfl (by rfl) (by kernel_rfl) (by kernel_rfl) (by kernel_rfl) (fun _ _ _ h => h) (Or.inl ⟨by rfl, ?hordp10r17⟩) (by assumption) ?rordp10r17
  case hordp10r17 => (intro wS hSw; (try dsimp only at hSw); have hcq0 := cn hSw JB0; have hcq1 := cn hSw JB1; go_simp; try (with_reducible rfl))
  (try simp only [Act.put, List.setIfInBounds_toArray, List.set_cons_zero, List.set_cons_succ])
  refine wpAnyH_ready (rs := [17]) (by kernel_rfl) (by simp) ?_
  refine AllReadyH.cons rfl (fun K hK => ?_) AllReadyH.nil
  go_simp
  go_at_call 48
  refine (Iab.out _).mono ?_
  rintro e wordp10r18 ⟨rfl, bkordp10r18⟩
  have hBn := below_next hBk bkordp10r18
  clear hBk bkordp10r18
  have hBk := hBn
  clear hBn
  try go_simp
  refine hK.out _ _ ?_ (fun hHeld => ?_)
  · (try dsimp only); exact hBk
  clear hK K
  (try simp only [Act.put, List.setIfInBounds_toArray, List.set_cons_zero, List.set_cons_succ])
  refine take_d (i := 18) (v := ?vordp10r19) rfl (by rfl) (by kernel_rfl) (by kernel_rfl) (by kernel_rfl) (fun _ _ _ h => h) (Or.inl ⟨by rfl, ?hordp10r19⟩) (by assumption) ?rordp10r19
  case hordp10r19 => (intro wS hSw; (try dsimp only at hSw); go_simp; try (with_reducible rfl))
  (try simp only [Act.put, List.setIfInBounds_toArray, List.set_cons_zero, List.set_cons_succ])
  refine take_d (i := 19) (v := ?vordp10r20) rfl (by rfl) (by kernel_rfl) (by kernel_rfl) (by kernel_rfl) (fun _ _ _ h => h) (Or.inl ⟨by rfl, ?hordp10r20⟩) (by assumption) ?rordp10r20
  case hordp10r20 => (intro wS hSw; (try dsimp only at hSw); have hcq0 := cn hSw JB0; have hcq1 := cn hSw JB1; go_simp; try (with_reducible rfl))
  (try simp only [Act.put, List.setIfInBounds_toArray, List.set_cons_zero, List.set_cons_succ])
  refine take_d (i := 20) (v := ?vordp10r21) rfl (by rfl) (by kernel_rfl) (by kernel_rfl) (by kernel_rfl) (fun _ _ _ h => h) (Or.inl ⟨by rfl, ?hordp10r21⟩) (by assumption) ?rordp10r21
  case hordp10r21 => (intro wS hSw; (try dsimp only at hSw); have hcq0 := cn hSw JA0; have hcq1 := cn hSw JA1; go_simp; try (with_reducible rfl))
  (try simp only [Act.put, List.setIfInBounds_toArray, List.set_cons_zero, List.set_cons_succ])
  refine wpAnyH_ready (rs := [21]) (by kernel_rfl) (by simp) ?_
  refine AllReadyH.cons rfl (fun K hK => ?_) AllReadyH.nil
  go_simp
  go_at_call 48
  refine (Iba.out _).mono ?_
  rintro e wordp10r22 ⟨rfl, bkordp10r22⟩
  have hBn := below_next hBk bkordp10r22
  clear hBk bkordp10r22
  have hBk := hBn
  clear hBn
  try go_simp
  refine hK.out _ _ ?_ (fun hHeld => ?_)
  · (try dsimp only); exact hBk
  clear hK K
  (try simp only [Act.put, List.setIfInBounds_toArray, List.set_cons_zero, List.set_cons_succ])
  refine take_d (i := 22) (v := ?vordp10r23) rfl (by rfl) (by kernel_rfl) (by kernel_rfl) (by kernel_rfl) (fun _ _ _ h => h) (Or.inl ⟨by rfl, ?hordp10r23⟩) (by assumption) ?rordp10r23
  case hordp10r23 => (intro wS hSw; (try dsimp only at hSw); go_simp; try (with_reducible rfl))
  (try simp only [Act.put, List.setIfInBounds_toArray, List.set_cons_zero, List.set_cons_succ])
  refine take_d (i := 23) (v := ?vordp10r24) rfl (by rfl) (by kernel_rfl) (by kernel_rfl) (by kernel_rfl) (fun _ _ _ h => h) (Or.inl ⟨by rfl, ?hordp10r24⟩) (by assumption) ?rordp10r24
  case hordp10r24 => (intro wS hSw; (try dsimp only at hSw); go_simp; try (with_reducible rfl))
  (try simp only [Act.put, List.setIfInBounds_toArray, List.set_cons_zero, List.set_cons_succ])
  refine take_d (i := 24) (v := undef) rfl (by rfl) (by kernel_rfl) (by kernel_rfl) (by kernel_rfl) (fun _ _ _ h => h) (Or.inr ⟨by rfl, rfl⟩) (by assumption) ?rordp10r25
  (try simp only [Act.put, List.setIfInBounds_toArray, List.set_cons_zero, List.set_cons_succ])
  refine take_d (i := 25) (v := undef) rfl (by rfl) (by kernel_rfl) (by kernel_rfl) (by kernel_rfl) (fun _ _ _ h => h) (Or.inr ⟨by rfl, rfl⟩) (by assumption) ?rordp10r26
  (try simp only [Act.put, List.setIfInBounds_toArray, List.set_cons_zero, List.set_cons_succ])
  refine take_d (i := 26) (v := undef) rfl (by rfl) (by kernel_rfl) (by kernel_rfl) (by kernel_rfl) (fun _ _ _ h => h) (Or.inr ⟨by rfl, rfl⟩) (by assumption) ?rordp10r27
  (try simp only [Act.put, List.setIfInBounds_toArray, List.set_cons_zero, List.set_cons_succ])
  refine take_d (i := 27) (v := ?vordp10r28) rfl (by rfl) (by kernel_rfl) (by kernel_rfl) (by kernel_rfl) (fun _ _ _ h => h) (Or.inl ⟨by rfl, ?hordp10r28⟩) (by assumption) ?rordp10r28
  case hordp10r28 => (intro wS hSw; (try dsimp only at hSw); go_simp; try (with_reducible rfl))
  (try simp only [Act.put, List.setIfInBounds_toArray, List.set_cons_zero, List.set_cons_succ])
  refine take_d (i := 28) (v := ?vordp10r29) rfl (by rfl) (by kernel_rfl) (by kernel_rfl) (by kernel_rfl) (fun _ _ _ h => h) (Or.inl ⟨by rfl, ?hordp10r29⟩) (by assumption) ?rordp10r29
  case hordp10r29 => (intro wS hSw; (try dsimp only at hSw); go_simp; try (with_reducible rfl))
  (try simp only [Act.put, List.setIfInBounds_toArray, List.set_cons_zero, List.set_cons_succ])
  refine take_d (i := 29) (v := ?vordp10r30) rfl (by rfl) (by kernel_rfl) (by kernel_rfl) (by kernel_rfl) (fun _ _ _ h => h) (Or.inl ⟨by rfl, ?hordp10r30⟩) (by assumption) ?rordp10r30
  case hordp10r30 => (intro wS hSw; (try dsimp only at hSw); go_simp; try (with_reducible rfl))
  (try simp only [Act.put, List.setIfInBounds_toArray, List.set_cons_zero, List.set_cons_succ])
  refine take_d (i := 30) (v := ?vordp10r31) rfl (by rfl) (by kernel_rfl) (by kernel_rfl) (by kernel_rfl) (fun _ _ _ h => h) (Or.inl ⟨by rfl, ?hordp10r31⟩) (by assumption) ?rordp10r31
  case hordp10r31 => (intro wS hSw; (try dsimp only at hSw); have hcq0 := cn hSw JA0; have hcq1 := cn hSw JA1; go_simp; try (with_reducible rfl))
  (try simp only [Act.put, List.setIfInBounds_toArray, List.set_cons_zero, List.set_cons_succ])
  refine take_d (i := 31) (v := ?vordp10r32) rfl (by rfl) (by kernel_rfl) (by kernel_rfl) (by kernel_rfl) (fun _ _ _ h => h) (Or.inl ⟨by rfl, ?hordp10r32⟩) (by assumption) ?rordp10r32
  case hordp10r32 => (intro wS hSw; (try dsimp only at hSw); have hcq0 := cn hSw JB0; have hcq1 := cn hSw JB1; go_simp; try (with_reducible rfl))
  (try simp only [Act.put, List.setIfInBounds_toArray, List.set_cons_zero, List.set_cons_succ])
  refine wpAnyH_ready (rs := [32]) (by kernel_rfl) (by simp) ?_
  refine AllReadyH.cons rfl (fun K hK => ?_) AllReadyH.nil
  go_simp
  go_at_call 48
  refine (Iab.out _).mono ?_
  rintro e wordp10r33 ⟨rfl, bkordp10r33⟩
  have hBn := below_next hBk bkordp10r33
  clear hBk bkordp10r33
  have hBk := hBn
  clear hBn
  try go_simp
  refine hK.out _ _ ?_ (fun hHeld => ?_)
  · (try dsimp only); exact hBk
  clear hK K
  (try simp only [Act.put, List.setIfInBounds_toArray, List.set_cons_zero, List.set_cons_succ])
  refine take_d (i := 33) (v := ?vordp10r34) rfl (by rfl) (by kernel_rfl) (by kernel_rfl) (by kernel_rfl) (fun _ _ _ h => h) (Or.inl ⟨by rfl, ?hordp10r34⟩) (by assumption) ?rordp10r34
  case hordp10r34 => (intro wS hSw; (try dsimp only at hSw); go_simp; try (with_reducible rfl))
  (try simp only [Act.put, List.setIfInBounds_toArray, List.set_cons_zero, List.set_cons_succ])
  refine take_d (i := 34) (v := ?vordp10r35) rfl (by rfl) (by kernel_rfl) (by kernel_rfl) (by kernel_rfl) (fun _ _ _ h => h) (Or.inl ⟨by rfl, ?hordp10r35⟩) (by assumption) ?rordp10r35
  case hordp10r35 => (intro wS hSw; (try dsimp only at hSw); have hcq0 := cn hSw JB0; have hcq1 := cn hSw JB1; go_simp; try (with_reducible rfl))
  (try simp only [Act.put, List.setIfInBounds_toArray, List.set_cons_zero, List.set_cons_succ])
  refine take_d (i := 35) (v := ?vordp10r36) rfl (by rfl) (by kernel_rfl) (by kernel_rfl) (by kernel_rfl) (fun _ _ _ h => h) (Or.inl ⟨by rfl, ?hordp10r36⟩) (by assumption) ?rordp10r36
  case hordp10r36 => (intro wS hSw; (try dsimp only at hSw); have hcq0 := cn hSw JC0; have hcq1 := cn hSw JC1; go_simp; try (with_reducible rfl))
  (try simp only [Act.put, List.setIfInBounds_toArray, List.set_cons_zero, List.set_cons_succ])
  refine wpAnyH_ready (rs := [36]) (by kernel_rfl) (by simp) ?_
  refine AllReadyH.cons rfl (fun K hK => ?_) AllReadyH.nil
  go_simp
  go_at_call 48
  refine (Ibc.out _).mono ?_
  rintro e wordp10r37 ⟨rfl, bkordp10r37⟩
  have hBn := below_next hBk bkordp10r37
  clear hBk bkordp10r37
  have hBk := hBn
  clear hBn
  try go_simp
  refine hK.out _ _ ?_ (fun hHeld => ?_)
  · (try dsimp only); exact hBk
  clear hK K
  (try simp only [Act.put, List.setIfInBounds_toArray, List.set_cons_zero, List.set_cons_succ])
  refine take_d (i := 37) (v := ?vordp10r38) rfl (by rfl) (by kernel_rfl) (by kernel_rfl) (by kernel_rfl) (fun _ _ _ h => h) (Or.inl ⟨by rfl, ?hordp10r38⟩) (by assumption) ?rordp10r38
  case hordp10r38 => (intro wS hSw; (try dsimp only at hSw); go_simp; try (with_reducible rfl))
  (try simp only [Act.put, List.setIfInBounds_toArray, List.set_cons_zero, List.set_cons_succ])
  refine take_d (i := 38) (v := ?vordp10r39) rfl (by rfl) (by kernel_rfl) (by kernel_rfl) (by kernel_rfl) (fun _ _ _ h => h) (Or.inl ⟨by rfl, ?hordp10r39⟩) (by assumption) ?rordp10r39
  case hordp10r39 => (intro wS hSw; (try dsimp only at hSw); go_simp; try (with_reducible rfl))
  (try simp only [Act.put, List.setIfInBounds_toArray, List.set_cons_zero, List.set_cons_succ])
  refine take_d (i := 39) (v := undef) rfl (by rfl) (by kernel_rfl) (by kernel_rfl) (by kernel_rfl) (fun _ _ _ h => h) (Or.inr ⟨by rfl, rfl⟩) (by assumption) ?rordp10r40
  (try simp only [Act.put, List.setIfInBounds_toArray, List.set_cons_zero, List.set_cons_succ])
  refine take_d (i := 40) (v := undef) rfl (by rfl) (by kernel_rfl) (by kernel_rfl) (by kernel_rfl) (fun _ _ _ h => h) (Or.inr ⟨by rfl, rfl⟩) (by assumption) ?rordp10r41
  (try simp only [Act.put, List.setIfInBounds_toArray, List.set_cons_zero, List.set_cons_succ])
  refine take_d (i := 41) (v := undef) rfl (by rfl) (by kernel_rfl) (by kernel_rfl) (by kernel_rfl) (fun _ _ _ h => h) (Or.inr ⟨by rfl, rfl⟩) (by assumption) ?rordp10r42
  (try simp only [Act.put, List.setIfInBounds_toArray, List.set_cons_zero, List.set_cons_succ])
  refine take_d (i := 42) (v := undef) rfl (by rfl) (by kernel_rfl) (by kernel_rfl) (by kernel_rfl) (fun _ _ _ h => h) (Or.inr ⟨by rfl, rfl⟩) (by assumption) ?rordp10r43
  (try simp only [Act.put, List.setIfInBounds_toArray, List.set_cons_zero, List.set_cons_succ])
  refine take_d (i := 43) (v := ?vordp10r44) rfl (by rfl) (by kernel_rfl) (by kernel_rfl) (by kernel_rfl) (fun _ _ _ h => h) (Or.inl ⟨by rfl, ?hordp10r44⟩) (by assumption) ?rordp10r44
  case hordp10r44 => (intro wS hSw; (try dsimp only at hSw); go_simp; try (with_reducible rfl))
  (try simp only [Act.put, List.setIfInBounds_toArray, List.set_cons_zero, List.set_cons_succ])
  refine take_d (i := 44) (v := ?vordp10r45) rfl (by rfl) (by kernel_rfl) (by kernel_rfl) (by kernel_rfl) (fun _ _ _ h => h) (Or.inl ⟨by rfl, ?hordp10r45⟩) (by assumption) ?rordp10r45
  case hordp10r45 => (intro wS hSw; (try dsimp only at hSw); go_simp; try (with_reducible rfl))
  (try simp only [Act.put, List.setIfInBounds_toArray, List.set_cons_zero, List.set_cons_succ])
  refine wpAnyH_done (by kernel_rfl) ?_ _
  clear JA0 JA1 JAl JB0 JB1 JBl JC0 JC1 JCl JJ0 JJ1 JJl lB
  generalize wordp10r37 = w7 at hBk ⊢
  replace JA := JA.below hBk
  replace JB := JB.below hBk
  replace JC := JC.below hBk
  replace JJ := JJ.below hBk
  replace B := below_next B hBk
  clear hBk
  cases ac
  · skip
    have JA0 := JA.2.1
    have JA1 := JA.2.2
    have JAl := JA.1
    have JB0 := JB.2.1
    have JB1 := JB.2.2
    have JBl := JB.1
    have JC0 := JC.2.1
    have JC1 := JC.2.2
    have JCl := JC.1
    have JJ0 := JJ.2.1
    have JJ1 := JJ.2.2
    have JJl := JJ.1
    have lB := B.size
    go_wp2_with fail
    refine (Iaj.out _).mono ?_
    rintro e w8 ⟨rfl, z⟩
    clear JA0 JA1 JAl JB0 JB1 JBl JC0 JC1 JCl JJ0 JJ1 JJl lB
    replace JA := JA.below z
    replace JB := JB.below z
    replace JC := JC.below z
    replace JJ := JJ.below z
    replace B := below_next B z
    clear z
    have JA0 := JA.2.1
    have JA1 := JA.2.2
    have JAl := JA.1
    have JB0 := JB.2.1
    have JB1 := JB.2.2
    have JBl := JB.1
    have JC0 := JC.2.1
    have JC1 := JC.2.2
    have JCl := JC.1
    have JJ0 := JJ.2.1
    have JJ1 := JJ.2.2
    have JJl := JJ.1
    have lB := B.size
    go_wp2_with fail
    refine (Ibj.out _).mono ?_
    rintro e w9 ⟨rfl, z⟩
    clear JA0 JA1 JAl JB0 JB1 JBl JC0 JC1 JCl JJ0 JJ1 JJl lB
    replace JA := JA.below z
    replace JB := JB.below z
    replace JC := JC.below z
    replace JJ := JJ.below z
    replace B := below_next B z
    clear z
    have JA0 := JA.2.1
    have JA1 := JA.2.2
    have JAl := JA.1
    have JB0 := JB.2.1
    have JB1 := JB.2.2
    have JBl := JB.1
    have JC0 := JC.2.1
    have JC1 := JC.2.2
    have JCl := JC.1
    have JJ0 := JJ.2.1
    have JJ1 := JJ.2.2
    have JJl := JJ.1
    have lB := B.size
    go_wp2_with fail
    refine (Iac.out _).mono ?_
    rintro e w10 ⟨rfl, z⟩
    clear JA0 JA1 JAl JB0 JB1 JBl JC0 JC1 JCl JJ0 JJ1 JJl lB
    replace JA := JA.below z
    replace JB := JB.below z
    replace JC := JC.below z
    replace JJ := JJ.below z
    replace B := below_next B z
    clear z
    have JA0 := JA.2.1
    have JA1 := JA.2.2
    have JAl := JA.1
    have JB0 := JB.2.1
    have JB1 := JB.2.2
    have JBl := JB.1
    have JC0 := JC.2.1
    have JC1 := JC.2.2
    have JCl := JC.1
    have JJ0 := JJ.2.1
    have JJ1 := JJ.2.2
    have JJl := JJ.1
    have lB := B.size
    go_wp2_with fail
    refine (XM.out _).mono ?_
    rintro e w11 ⟨rfl, z⟩
    clear JA0 JA1 JAl JB0 JB1 JBl JC0 JC1 JCl JJ0 JJ1 JJl lB
    replace JA := JA.below z
    replace JB := JB.below z
    replace JC := JC.below z
    replace JJ := JJ.below z
    replace B := below_next B z
    clear z
    rcases (show mk = true ∨ mk = false by cases mk <;> simp) with rfl | rfl
    · skip
      obtain rfl : ma = true := mA.out (by trivial)
      obtain rfl : mb = true := mB.out (by trivial)
      clear mA mB
      have JA0 := JA.2.1
      have JA1 := JA.2.2
      have JAl := JA.1
      have JB0 := JB.2.1
      have JB1 := JB.2.2
      have JBl := JB.1
      have JC0 := JC.2.1
      have JC1 := JC.2.2
      have JCl := JC.1
      have JJ0 := JJ.2.1
      have JJ1 := JJ.2.2
      have JJl := JJ.1
      have lB := B.size
      go_wp2_with fail
      clear JA0 JA1 JAl JB0 JB1 JBl JC0 JC1 JCl JJ0 JJ1 JJl lB
      have JM : TC (w11.alloc (.cells #[.int .u64 (ub M0.1), .int .u64 (ub M0.2)] 24)) w11.heap.size M0 := TC.new rfl
      replace JA := JA.alloc (.cells #[.int .u64 (ub M0.1), .int .u64 (ub M0.2)] 24)
      replace JB := JB.alloc (.cells #[.int .u64 (ub M0.1), .int .u64 (ub M0.2)] 24)
      replace JC := JC.alloc (.cells #[.int .u64 (ub M0.1), .int .u64 (ub M0.2)] 24)
      replace JJ := JJ.alloc (.cells #[.int .u64 (ub M0.1), .int .u64 (ub M0.2)] 24)
      replace B := Below.alloc B B.size (.cells #[.int .u64 (ub M0.1), .int .u64 (ub M0.2)] 24)
      generalize w11.alloc (.cells #[.int .u64 (ub M0.1), .int .u64 (ub M0.2)] 24) = w12 at *
      generalize w11.heap.size = g2 at *
      have JA0 := JA.2.1
      have JA1 := JA.2.2
      have JAl := JA.1
      have JB0 := JB.2.1
      have JB1 := JB.2.2
      have JBl := JB.1
      have JC0 := JC.2.1
      have JC1 := JC.2.2
      have JCl := JC.1
      have JJ0 := JJ.2.1
      have JJ1 := JJ.2.2
      have JJl := JJ.1
      have JM0 := JM.2.1
      have JM1 := JM.2.2
      have JMl := JM.1
      have lB := B.size
      go_wp2_with fail
      refine (Ima.out _).mono ?_
      rintro e w13 ⟨rfl, z⟩
      clear JA0 JA1 JAl JB0 JB1 JBl JC0 JC1 JCl JJ0 JJ1 JJl JM0 JM1 JMl lB
      replace JA := JA.below z
      replace JB := JB.below z
      replace JC := JC.below z
      replace JJ := JJ.below z
      replace JM := JM.below z
      replace B := below_next B z
      clear z
      have JA0 := JA.2.1
      have JA1 := JA.2.2
      have JAl := JA.1
      have JB0 := JB.2.1
      have JB1 := JB.2.2
      have JBl := JB.1
      have JC0 := JC.2.1
      have JC1 := JC.2.2
      have JCl := JC.1
      have JJ0 := JJ.2.1
      have JJ1 := JJ.2.2
      have JJl := JJ.1
      have JM0 := JM.2.1
      have JM1 := JM.2.2
      have JMl := JM.1
      have lB := B.size
      go_wp2_with fail
      refine (Imb.out _).mono ?_
      rintro e w14 ⟨rfl, z⟩
      clear JA0 JA1 JAl JB0 JB1 JBl JC0 JC1 JCl JJ0 JJ1 JJl JM0 JM1 JMl lB
      replace JA := JA.below z
      replace JB := JB.below z
      replace JC := JC.below z
      replace JJ := JJ.below z
      replace JM := JM.below z
      replace B := below_next B z
      clear z
      have JA0 := JA.2.1
      have JA1 := JA.2.2
      have JAl := JA.1
      have JB0 := JB.2.1
      have JB1 := JB.2.2
      have JBl := JB.1
      have JC0 := JC.2.1
      have JC1 := JC.2.2
      have JCl := JC.1
      have JJ0 := JJ.2.1
      have JJ1 := JJ.2.2
      have JJl := JJ.1
      have JM0 := JM.2.1
      have JM1 := JM.2.2
      have JMl := JM.1
      have lB := B.size
      go_wp2_with fail
      refine (Ica.out _).mono ?_
      rintro e w15 ⟨rfl, z⟩
      clear JA0 JA1 JAl JB0 JB1 JBl JC0 JC1 JCl JJ0 JJ1 JJl JM0 JM1 JMl lB
      replace JA := JA.below z
      replace JB := JB.below z
      replace JC := JC.below z
      replace JJ := JJ.below z
      replace JM := JM.below z
      replace B := below_next B z
      clear z
      cases ca
      · skip
        have hce := hce.out
        have JA0 := JA.2.1
        have JA1 := JA.2.2
        have JAl := JA.1
        have JB0 := JB.2.1
        have JB1 := JB.2.2
        have JBl := JB.1
        have JC0 := JC.2.1
        have JC1 := JC.2.2
        have JCl := JC.1
        have JJ0 := JJ.2.1
        have JJ1 := JJ.2.2
        have JJl := JJ.1
        have JM0 := JM.2.1
        have JM1 := JM.2.2
        have JMl := JM.1
        have lB := B.size
        go_wp2_with fail
        refine wp_region_held_drew (S := (fun w' : World => Below w15.heap.size w15 w')) (by kernel_rfl) ?_ (fun hHeld => ?_)
        · (try dsimp only); first | (with_reducible exact below_dr _) | (with_reducible exact Below.refl _ _) | exact below_dr _
        have hBk := below_dr w15
        refine take_d (i := 0) (v := ?vq16_1) rfl (by rfl) (by kernel_rfl) (by kernel_rfl) (by kernel_rfl) (fun _ _ _ h => h) (Or.inl ⟨by rfl, ?hq16_1⟩) (by assumption) ?rq16_1
        case hq16_1 => (intro wS hSw; (try dsimp only at hSw); have hcq0 := cn hSw JA0; have hcq1 := cn hSw JA1; go_simp; try (with_reducible rfl))
        (try simp only [Act.put, List.setIfInBounds_toArray, List.set_cons_zero, List.set_cons_succ])
        refine take_d (i := 1) (v := ?vq16_2) rfl (by rfl) (by kernel_rfl) (by kernel_rfl) (by kernel_rfl) (fun _ _ _ h => h) (Or.inl ⟨by rfl, ?hq16_2⟩) (by assumption) ?rq16_2
        case hq16_2 => (intro wS hSw; (try dsimp only at hSw); go_simp; try (with_reducible rfl))
        (try simp only [Act.put, List.setIfInBounds_toArray, List.set_cons_zero, List.set_cons_succ])
        refine take_d (i := 2) (v := ?vq16_3) rfl (by rfl) (by kernel_rfl) (by kernel_rfl) (by kernel_rfl) (fun _ _ _ h => h) (Or.inl ⟨by rfl, ?hq16_3⟩) (by assumption) ?rq16_3
        case hq16_3 => (intro wS hSw; (try dsimp only at hSw); have hcq0 := cn hSw JA0; have hcq1 := cn hSw JA1; go_simp; try (with_reducible rfl))
        (try simp only [Act.put, List.setIfInBounds_toArray, List.set_cons_zero, List.set_cons_succ])
        refine wpAnyH_ready (rs := [3]) (by kernel_rfl) (by simp) ?_
        refine AllReadyH.cons rfl (fun K hK => ?_) AllReadyH.nil
        go_simp
        go_at_call 46
        refine (HL.out _).mono ?_
        rintro e wq16_4 ⟨rfl, bkq16_4⟩
        have hBn := below_next hBk bkq16_4
        clear hBk bkq16_4
        have hBk := hBn
        clear hBn
        try go_simp
        refine hK.out _ _ ?_ (fun hHeld => ?_)
        · (try dsimp only); exact hBk
        clear hK K
        (try simp only [Act.put, List.setIfInBounds_toArray, List.set_cons_zero, List.set_cons_succ])
        refine take_d (i := 4) (v := ?vq16_5) rfl (by rfl) (by kernel_rfl) (by kernel_rfl) (by kernel_rfl) (fun _ _ _ h => h) (Or.inl ⟨by rfl, ?hq16_5⟩) (by assumption) ?rq16_5
        case hq16_5 => (intro wS hSw; (try dsimp only at hSw); go_simp; try (with_reducible rfl))
        (try simp only [Act.put, List.setIfInBounds_toArray, List.set_cons_zero, List.set_cons_succ])
        refine take_d (i := 5) (v := ?vq16_6) rfl (by rfl) (by kernel_rfl) (by kernel_rfl) (by kernel_rfl) (fun _ _ _ h => h) (Or.inl ⟨by rfl, ?hq16_6⟩) (by assumption) ?rq16_6
        case hq16_6 => (intro wS hSw; (try dsimp only at hSw); have hcq0 := cn hSw JA0; have hcq1 := cn hSw JA1; go_simp; try (with_reducible rfl))
        (try simp only [Act.put, List.setIfInBounds_toArray, List.set_cons_zero, List.set_cons_succ])
        refine take_d (i := 6) (v := ?vq16_7) rfl (by rfl) (by kernel_rfl) (by kernel_rfl) (by kernel_rfl) (fun _ _ _ h => h) (Or.inl ⟨by rfl, ?hq16_7⟩) (by assumption) ?rq16_7
        case hq16_7 => (intro wS hSw; (try dsimp only at hSw); go_simp; try (with_reducible rfl))
        (try simp only [Act.put, List.setIfInBounds_toArray, List.set_cons_zero, List.set_cons_succ])
        refine take_d (i := 7) (v := ?vq16_8) rfl (by rfl) (by kernel_rfl) (by kernel_rfl) (by kernel_rfl) (fun _ _ _ h => h) (Or.inl ⟨by rfl, ?hq16_8⟩) (by assumption) ?rq16_8
        case hq16_8 => (intro wS hSw; (try dsimp only at hSw); have hcq0 := cn hSw JA0; have hcq1 := cn hSw JA1; go_simp; try (with_reducible rfl))
        (try simp only [Act.put, List.setIfInBounds_toArray, List.set_cons_zero, List.set_cons_succ])
        refine take_d (i := 8) (v := ?vq16_9) rfl (by rfl) (by kernel_rfl) (by kernel_rfl) (by kernel_rfl) (fun _ _ _ h => h) (Or.inl ⟨by rfl, ?hq16_9⟩) (by assumption) ?rq16_9
        case hq16_9 => (intro wS hSw; (try dsimp only at hSw); go_simp; try (with_reducible rfl))
        (try simp only [Act.put, List.setIfInBounds_toArray, List.set_cons_zero, List.set_cons_succ])
        refine take_d (i := 9) (v := ?vq16_10) rfl (by rfl) (by kernel_rfl) (by kernel_rfl) (by kernel_rfl) (fun _ _ _ h => h) (Or.inl ⟨by rfl, ?hq16_10⟩) (by assumption) ?rq16_10
        case hq16_10 => (intro wS hSw; (try dsimp only at hSw); have hcq0 := cn hSw JA0; have hcq1 := cn hSw JA1; go_simp; try (with_reducible rfl))
        (try simp only [Act.put, List.setIfInBounds_toArray, List.set_cons_zero, List.set_cons_succ])
        refine take_d (i := 10) (v := ?vq16_11) rfl (by rfl) (by kernel_rfl) (by kernel_rfl) (by kernel_rfl) (fun _ _ _ h => h) (Or.inl ⟨by rfl, ?hq16_11⟩) (by assumption) ?rq16_11
        case hq16_11 => (intro wS hSw; (try dsimp only at hSw); go_simp; try (with_reducible rfl))
        (try simp only [Act.put, List.setIfInBounds_toArray, List.set_cons_zero, List.set_cons_succ])
        refine wpAnyH_ready (rs := [11]) (by kernel_rfl) (by simp) ?_
        refine AllReadyH.cons rfl (fun K hK => ?_) AllReadyH.nil
        go_simp
        go_at_call 46
        refine (HT.out _).mono ?_
        rintro e wq16_12 ⟨rfl, bkq16_12⟩
        have hBn := below_next hBk bkq16_12
        clear hBk bkq16_12
        have hBk := hBn
        clear hBn
        try go_simp
        refine hK.out _ _ ?_ (fun hHeld => ?_)
        · (try dsimp only); exact hBk
        clear hK K
        (try simp only [Act.put, List.setIfInBounds_toArray, List.set_cons_zero, List.set_cons_succ])
        refine take_d (i := 12) (v := ?vq16_13) rfl (by rfl) (by kernel_rfl) (by kernel_rfl) (by kernel_rfl) (fun _ _ _ h => h) (Or.inl ⟨by rfl, ?hq16_13⟩) (by assumption) ?rq16_13
        case hq16_13 => (intro wS hSw; (try dsimp only at hSw); go_simp; try (with_reducible rfl))
        (try simp only [Act.put, List.setIfInBounds_toArray, List.set_cons_zero, List.set_cons_succ])
        refine take_d (i := 13) (v := ?vq16_14) rfl (by rfl) (by kernel_rfl) (by kernel_rfl) (by kernel_rfl) (fun _ _ _ h => h) (Or.inl ⟨by rfl, ?hq16_14⟩) (by assumption) ?rq16_14
        case hq16_14 => (intro wS hSw; (try dsimp only at hSw); go_simp; try (with_reducible rfl))
        (try simp only [Act.put, List.setIfInBounds_toArray, List.set_cons_zero, List.set_cons_succ])
        refine take_d (i := 14) (v := ?vq16_15) rfl (by rfl) (by kernel_rfl) (by kernel_rfl) (by kernel_rfl) (fun _ _ _ h => h) (Or.inl ⟨by rfl, ?hq16_15⟩) (by assumption) ?rq16_15
        case hq16_15 => (intro wS hSw; (try dsimp only at hSw); have hcq0 := cn hSw JA0; have hcq1 := cn hSw JA1; go_simp; try (with_reducible rfl))
        (try simp only [Act.put, List.setIfInBounds_toArray, List.set_cons_zero, List.set_cons_succ])
        refine take_d (i := 17) (v := ?vq16_16) rfl (by rfl) (by kernel_rfl) (by kernel_rfl) (by kernel_rfl) (fun _ _ _ h => h) (Or.inl ⟨by rfl, ?hq16_16⟩) (by assumption) ?rq16_16
        case hq16_16 => (intro wS hSw; (try dsimp only at hSw); go_simp; try (with_reducible rfl))
        (try simp only [Act.put, List.setIfInBounds_toArray, List.set_cons_zero, List.set_cons_succ])
        refine take_d (i := 18) (v := ?vq16_17) rfl (by rfl) (by kernel_rfl) (by kernel_rfl) (by kernel_rfl) (fun _ _ _ h => h) (Or.inl ⟨by rfl, ?hq16_17⟩) (by assumption) ?rq16_17
        case hq16_17 => (intro wS hSw; (try dsimp only at hSw); have hcq0 := cn hSw JA0; have hcq1 := cn hSw JA1; go_simp; try (with_reducible rfl))
        (try simp only [Act.put, List.setIfInBounds_toArray, List.set_cons_zero, List.set_cons_succ])
        refine take_d (i := 19) (v := ?vq16_18) rfl (by rfl) (by kernel_rfl) (by kernel_rfl) (by kernel_rfl) (fun _ _ _ h => h) (Or.inl ⟨by rfl, ?hq16_18⟩) (by assumption) ?rq16_18
        case hq16_18 => (intro wS hSw; (try dsimp only at hSw); go_simp; try (with_reducible rfl))
        (try simp only [Act.put, List.setIfInBounds_toArray, List.set_cons_zero, List.set_cons_succ])
        refine wpAnyH_ready (rs := [15]) (by kernel_rfl) (by simp) ?_
        refine AllReadyH.cons rfl (fun K hK => ?_) AllReadyH.nil
        go_simp
        go_at_call 49
        refine (FR.out _).mono ?_
        rintro e wq16_19 ⟨rfl, bkq16_19⟩
        have hBn := below_next hBk bkq16_19
        clear hBk bkq16_19
        have hBk := hBn
        clear hBn
        try go_simp
        refine hK.out _ _ ?_ (fun hHeld => ?_)
        · (try dsimp only); exact hBk
        clear hK K
        (try simp only [Act.put, List.setIfInBounds_toArray, List.set_cons_zero, List.set_cons_succ])
        refine take_d (i := 16) (v := ?vq16_20) rfl (by rfl) (by kernel_rfl) (by kernel_rfl) (by kernel_rfl) (fun _ _ _ h => h) (Or.inl ⟨by rfl, ?hq16_20⟩) (by assumption) ?rq16_20
        case hq16_20 => (intro wS hSw; (try dsimp only at hSw); go_simp; try (with_reducible rfl))
        (try simp only [Act.put, List.setIfInBounds_toArray, List.set_cons_zero, List.set_cons_succ])
        refine take_d (i := 20) (v := ?vq16_21) rfl (by rfl) (by kernel_rfl) (by kernel_rfl) (by kernel_rfl) (fun _ _ _ h => h) (Or.inl ⟨by rfl, ?hq16_21⟩) (by assumption) ?rq16_21
        case hq16_21 => (intro wS hSw; (try dsimp only at hSw); go_simp; try (with_reducible rfl))
        (try simp only [Act.put, List.setIfInBounds_toArray, List.set_cons_zero, List.set_cons_succ])
        refine take_d (i := 21) (v := ?vq16_22) rfl (by rfl) (by kernel_rfl) (by kernel_rfl) (by kernel_rfl) (fun _ _ _ h => h) (Or.inl ⟨by rfl, ?hq16_22⟩) (by assumption) ?rq16_22
        case hq16_22 => (intro wS hSw; (try dsimp only at hSw); go_simp; try (with_reducible rfl))
        (try simp only [Act.put, List.setIfInBounds_toArray, List.set_cons_zero, List.set_cons_succ])
        refine take_d (i := 22) (v := ?vq16_23) rfl (by rfl) (by kernel_rfl) (by kernel_rfl) (by kernel_rfl) (fun _ _ _ h => h) (Or.inl ⟨by rfl, ?hq16_23⟩) (by assumption) ?rq16_23
        case hq16_23 => (intro wS hSw; (try dsimp only at hSw); go_simp; try (with_reducible rfl))
        (try simp only [Act.put, List.setIfInBounds_toArray, List.set_cons_zero, List.set_cons_succ])
        refine wpAnyH_done (by kernel_rfl) ?_ _
        clear JA0 JA1 JAl JB0 JB1 JBl JC0 JC1 JCl JJ0 JJ1 JJl JM0 JM1 JMl lB
        generalize wq16_19 = w16 at hBk ⊢
        replace JA := JA.below hBk
        replace JB := JB.below hBk
        replace JC := JC.below hBk
        replace JJ := JJ.below hBk
        replace JM := JM.below hBk
        replace B := below_next B hBk
        clear hBk
        go_wp2
        go_ret
        exact ⟨rfl, B⟩
      · skip
        have JA0 := JA.2.1
        have JA1 := JA.2.2
        have JAl := JA.1
        have JB0 := JB.2.1
        have JB1 := JB.2.2
        have JBl := JB.1
        have JC0 := JC.2.1
        have JC1 := JC.2.2
        have JCl := JC.1
        have JJ0 := JJ.2.1
        have JJ1 := JJ.2.2
        have JJl := JJ.1
        have JM0 := JM.2.1
        have JM1 := JM.2.2
        have JMl := JM.1
        have lB := B.size
        go_wp2_with fail
        refine (Icb.out _).mono ?_
        rintro e w16 ⟨rfl, z⟩
        clear JA0 JA1 JAl JB0 JB1 JBl JC0 JC1 JCl JJ0 JJ1 JJl JM0 JM1 JMl lB
        replace JA := JA.below z
        replace JB := JB.below z
        replace JC := JC.below z
        replace JJ := JJ.below z
        replace JM := JM.below z
        replace B := below_next B z
        clear z
        cases cb
        · skip
          have hce := hce.out
          have JA0 := JA.2.1
          have JA1 := JA.2.2
          have JAl := JA.1
          have JB0 := JB.2.1
          have JB1 := JB.2.2
          have JBl := JB.1
          have JC0 := JC.2.1
          have JC1 := JC.2.2
          have JCl := JC.1
          have JJ0 := JJ.2.1
          have JJ1 := JJ.2.2
          have JJl := JJ.1
          have JM0 := JM.2.1
          have JM1 := JM.2.2
          have JMl := JM.1
          have lB := B.size
          go_wp2_with fail
          refine wp_region_held_drew (S := (fun w' : World => Below w16.heap.size w16 w')) (by kernel_rfl) ?_ (fun hHeld => ?_)
          · (try dsimp only); first | (with_reducible exact below_dr _) | (with_reducible exact Below.refl _ _) | exact below_dr _
          have hBk := below_dr w16
          refine take_d (i := 0) (v := ?vq17_1) rfl (by rfl) (by kernel_rfl) (by kernel_rfl) (by kernel_rfl) (fun _ _ _ h => h) (Or.inl ⟨by rfl, ?hq17_1⟩) (by assumption) ?rq17_1
          case hq17_1 => (intro wS hSw; (try dsimp only at hSw); have hcq0 := cn hSw JA0; have hcq1 := cn hSw JA1; go_simp; try (with_reducible rfl))
          (try simp only [Act.put, List.setIfInBounds_toArray, List.set_cons_zero, List.set_cons_succ])
          refine take_d (i := 1) (v := ?vq17_2) rfl (by rfl) (by kernel_rfl) (by kernel_rfl) (by kernel_rfl) (fun _ _ _ h => h) (Or.inl ⟨by rfl, ?hq17_2⟩) (by assumption) ?rq17_2
          case hq17_2 => (intro wS hSw; (try dsimp only at hSw); go_simp; try (with_reducible rfl))
          (try simp only [Act.put, List.setIfInBounds_toArray, List.set_cons_zero, List.set_cons_succ])
          refine take_d (i := 2) (v := ?vq17_3) rfl (by rfl) (by kernel_rfl) (by kernel_rfl) (by kernel_rfl) (fun _ _ _ h => h) (Or.inl ⟨by rfl, ?hq17_3⟩) (by assumption) ?rq17_3
          case hq17_3 => (intro wS hSw; (try dsimp only at hSw); have hcq0 := cn hSw JA0; have hcq1 := cn hSw JA1; go_simp; try (with_reducible rfl))
          (try simp only [Act.put, List.setIfInBounds_toArray, List.set_cons_zero, List.set_cons_succ])
          refine wpAnyH_ready (rs := [3]) (by kernel_rfl) (by simp) ?_
          refine AllReadyH.cons rfl (fun K hK => ?_) AllReadyH.nil
          go_simp
          go_at_call 46
          refine (HL.out _).mono ?_
          rintro e wq17_4 ⟨rfl, bkq17_4⟩
          have hBn := below_next hBk bkq17_4
          clear hBk bkq17_4
          have hBk := hBn
          clear hBn
          try go_simp
          refine hK.out _ _ ?_ (fun hHeld => ?_)
          · (try dsimp only); exact hBk
          clear hK K
          (try simp only [Act.put, List.setIfInBounds_toArray, List.set_cons_zero, List.set_cons_succ])
          refine take_d (i := 4) (v := ?vq17_5) rfl (by rfl) (by kernel_rfl) (by kernel_rfl) (by kernel_rfl) (fun _ _ _ h => h) (Or.inl ⟨by rfl, ?hq17_5⟩) (by assumption) ?rq17_5
          case hq17_5 => (intro wS hSw; (try dsimp only at hSw); go_simp; try (with_reducible rfl))
          (try simp only [Act.put, List.setIfInBounds_toArray, List.set_cons_zero, List.set_cons_succ])
          refine take_d (i := 5) (v := ?vq17_6) rfl (by rfl) (by kernel_rfl) (by kernel_rfl) (by kernel_rfl) (fun _ _ _ h => h) (Or.inl ⟨by rfl, ?hq17_6⟩) (by assumption) ?rq17_6
          case hq17_6 => (intro wS hSw; (try dsimp only at hSw); have hcq0 := cn hSw JA0; have hcq1 := cn hSw JA1; go_simp; try (with_reducible rfl))
          (try simp only [Act.put, List.setIfInBounds_toArray, List.set_cons_zero, List.set_cons_succ])
          refine take_d (i := 6) (v := ?vq17_7) rfl (by rfl) (by kernel_rfl) (by kernel_rfl) (by kernel_rfl) (fun _ _ _ h => h) (Or.inl ⟨by rfl, ?hq17_7⟩) (by assumption) ?rq17_7
          case hq17_7 => (intro wS hSw; (try dsimp only at hSw); go_simp; try (with_reducible rfl))
          (try simp only [Act.put, List.setIfInBounds_toArray, List.set_cons_zero, List.set_cons_succ])
          refine take_d (i := 7) (v := ?vq17_8) rfl (by rfl) (by kernel_rfl) (by kernel_rfl) (by kernel_rfl) (fun _ _ _ h => h) (Or.inl ⟨by rfl, ?hq17_8⟩) (by assumption) ?rq17_8
          case hq17_8 => (intro wS hSw; (try dsimp only at hSw); have hcq0 := cn hSw JA0; have hcq1 := cn hSw JA1; go_simp; try (with_reducible rfl))
          (try simp only [Act.put, List.setIfInBounds_toArray, List.set_cons_zero, List.set_cons_succ])
          refine take_d (i := 8) (v := ?vq17_9) rfl (by rfl) (by kernel_rfl) (by kernel_rfl) (by kernel_rfl) (fun _ _ _ h => h) (Or.inl ⟨by rfl, ?hq17_9⟩) (by assumption) ?rq17_9
          case hq17_9 => (intro wS hSw; (try dsimp only at hSw); go_simp; try (with_reducible rfl))
          (try simp only [Act.put, List.setIfInBounds_toArray, List.set_cons_zero, List.set_cons_succ])
          refine take_d (i := 9) (v := ?vq17_10) rfl (by rfl) (by kernel_rfl) (by kernel_rfl) (by kernel_rfl) (fun _ _ _ h => h) (Or.inl ⟨by rfl, ?hq17_10⟩) (by assumption) ?rq17_10
          case hq17_10 => (intro wS hSw; (try dsimp only at hSw); have hcq0 := cn hSw JA0; have hcq1 := cn hSw JA1; go_simp; try (with_reducible rfl))
          (try simp only [Act.put, List.setIfInBounds_toArray, List.set_cons_zero, List.set_cons_succ])
          refine take_d (i := 10) (v := ?vq17_11) rfl (by rfl) (by kernel_rfl) (by kernel_rfl) (by kernel_rfl) (fun _ _ _ h => h) (Or.inl ⟨by rfl, ?hq17_11⟩) (by assumption) ?rq17_11
          case hq17_11 => (intro wS hSw; (try dsimp only at hSw); go_simp; try (with_reducible rfl))
          (try simp only [Act.put, List.setIfInBounds_toArray, List.set_cons_zero, List.set_cons_succ])
          refine wpAnyH_ready (rs := [11]) (by kernel_rfl) (by simp) ?_
          refine AllReadyH.cons rfl (fun K hK => ?_) AllReadyH.nil
          go_simp
          go_at_call 46
          refine (HT.out _).mono ?_
          rintro e wq17_12 ⟨rfl, bkq17_12⟩
          have hBn := below_next hBk bkq17_12
          clear hBk bkq17_12
          have hBk := hBn
          clear hBn
          try go_simp
          refine hK.out _ _ ?_ (fun hHeld => ?_)
          · (try dsimp only); exact hBk
          clear hK K
          (try simp only [Act.put, List.setIfInBounds_toArray, List.set_cons_zero, List.set_cons_succ])
          refine take_d (i := 12) (v := ?vq17_13) rfl (by rfl) (by kernel_rfl) (by kernel_rfl) (by kernel_rfl) (fun _ _ _ h => h) (Or.inl ⟨by rfl, ?hq17_13⟩) (by assumption) ?rq17_13
          case hq17_13 => (intro wS hSw; (try dsimp only at hSw); go_simp; try (with_reducible rfl))
          (try simp only [Act.put, List.setIfInBounds_toArray, List.set_cons_zero, List.set_cons_succ])
          refine take_d (i := 13) (v := ?vq17_14) rfl (by rfl) (by kernel_rfl) (by kernel_rfl) (by kernel_rfl) (fun _ _ _ h => h) (Or.inl ⟨by rfl, ?hq17_14⟩) (by assumption) ?rq17_14
          case hq17_14 => (intro wS hSw; (try dsimp only at hSw); go_simp; try (with_reducible rfl))
          (try simp only [Act.put, List.setIfInBounds_toArray, List.set_cons_zero, List.set_cons_succ])
          refine take_d (i := 14) (v := ?vq17_15) rfl (by rfl) (by kernel_rfl) (by kernel_rfl) (by kernel_rfl) (fun _ _ _ h => h) (Or.inl ⟨by rfl, ?hq17_15⟩) (by assumption) ?rq17_15
          case hq17_15 => (intro wS hSw; (try dsimp only at hSw); have hcq0 := cn hSw JA0; have hcq1 := cn hSw JA1; go_simp; try (with_reducible rfl))
          (try simp only [Act.put, List.setIfInBounds_toArray, List.set_cons_zero, List.set_cons_succ])
          refine take_d (i := 17) (v := ?vq17_16) rfl (by rfl) (by kernel_rfl) (by kernel_rfl) (by kernel_rfl) (fun _ _ _ h => h) (Or.inl ⟨by rfl, ?hq17_16⟩) (by assumption) ?rq17_16
          case hq17_16 => (intro wS hSw; (try dsimp only at hSw); go_simp; try (with_reducible rfl))
          (try simp only [Act.put, List.setIfInBounds_toArray, List.set_cons_zero, List.set_cons_succ])
          refine take_d (i := 18) (v := ?vq17_17) rfl (by rfl) (by kernel_rfl) (by kernel_rfl) (by kernel_rfl) (fun _ _ _ h => h) (Or.inl ⟨by rfl, ?hq17_17⟩) (by assumption) ?rq17_17
          case hq17_17 => (intro wS hSw; (try dsimp only at hSw); have hcq0 := cn hSw JA0; have hcq1 := cn hSw JA1; go_simp; try (with_reducible rfl))
          (try simp only [Act.put, List.setIfInBounds_toArray, List.set_cons_zero, List.set_cons_succ])
          refine take_d (i := 19) (v := ?vq17_18) rfl (by rfl) (by kernel_rfl) (by kernel_rfl) (by kernel_rfl) (fun _ _ _ h => h) (Or.inl ⟨by rfl, ?hq17_18⟩) (by assumption) ?rq17_18
          case hq17_18 => (intro wS hSw; (try dsimp only at hSw); go_simp; try (with_reducible rfl))
          (try simp only [Act.put, List.setIfInBounds_toArray, List.set_cons_zero, List.set_cons_succ])
          refine wpAnyH_ready (rs := [15]) (by kernel_rfl) (by simp) ?_
          refine AllReadyH.cons rfl (fun K hK => ?_) AllReadyH.nil
          go_simp
          go_at_call 49
          refine (FR.out _).mono ?_
          rintro e wq17_19 ⟨rfl, bkq17_19⟩
          have hBn := below_next hBk bkq17_19
          clear hBk bkq17_19
          have hBk := hBn
          clear hBn
          try go_simp
          refine hK.out _ _ ?_ (fun hHeld => ?_)
          · (try dsimp only); exact hBk
          clear hK K
          (try simp only [Act.put, List.setIfInBounds_toArray, List.set_cons_zero, List.set_cons_succ])
          refine take_d (i := 16) (v := ?vq17_20) rfl (by rfl) (by kernel_rfl) (by kernel_rfl) (by kernel_rfl) (fun _ _ _ h => h) (Or.inl ⟨by rfl, ?hq17_20⟩) (by assumption) ?rq17_20
          case hq17_20 => (intro wS hSw; (try dsimp only at hSw); go_simp; try (with_reducible rfl))
          (try simp only [Act.put, List.setIfInBounds_toArray, List.set_cons_zero, List.set_cons_succ])
          refine take_d (i := 20) (v := ?vq17_21) rfl (by rfl) (by kernel_rfl) (by kernel_rfl) (by kernel_rfl) (fun _ _ _ h => h) (Or.inl ⟨by rfl, ?hq17_21⟩) (by assumption) ?rq17_21
          case hq17_21 => (intro wS hSw; (try dsimp only at hSw); go_simp; try (with_reducible rfl))
          (try simp only [Act.put, List.setIfInBounds_toArray, List.set_cons_zero, List.set_cons_succ])
          refine take_d (i := 21) (v := ?vq17_22) rfl (by rfl) (by kernel_rfl) (by kernel_rfl) (by kernel_rfl) (fun _ _ _ h => h) (Or.inl ⟨by rfl, ?hq17_22⟩) (by assumption) ?rq17_22
          case hq17_22 => (intro wS hSw; (try dsimp only at hSw); go_simp; try (with_reducible rfl))
          (try simp only [Act.put, List.setIfInBounds_toArray, List.set_cons_zero, List.set_cons_succ])
          refine take_d (i := 22) (v := ?vq17_23) rfl (by rfl) (by kernel_rfl) (by kernel_rfl) (by kernel_rfl) (fun _ _ _ h => h) (Or.inl ⟨by rfl, ?hq17_23⟩) (by assumption) ?rq17_23
          case hq17_23 => (intro wS hSw; (try dsimp only at hSw); go_simp; try (with_reducible rfl))
          (try simp only [Act.put, List.setIfInBounds_toArray, List.set_cons_zero, List.set_cons_succ])
          refine wpAnyH_done (by kernel_rfl) ?_ _
          clear JA0 JA1 JAl JB0 JB1 JBl JC0 JC1 JCl JJ0 JJ1 JJl JM0 JM1 JMl lB
          generalize wq17_19 = w17 at hBk ⊢
          replace JA := JA.below hBk
          replace JB := JB.below hBk
          replace JC := JC.below hBk
          replace JJ := JJ.below hBk
          replace JM := JM.below hBk
          replace B := below_next B hBk
          clear hBk
          go_wp2
          go_ret
          exact ⟨rfl, B⟩
        · skip
          obtain rfl : cm = true := (cM.out (by trivial) (by trivial)).2
          have JA0 := JA.2.1
          have JA1 := JA.2.2
          have JAl := JA.1
          have JB0 := JB.2.1
          have JB1 := JB.2.2
          have JBl := JB.1
          have JC0 := JC.2.1
          have JC1 := JC.2.2
          have JCl := JC.1
          have JJ0 := JJ.2.1
          have JJ1 := JJ.2.2
          have JJl := JJ.1
          have JM0 := JM.2.1
          have JM1 := JM.2.2
          have JMl := JM.1
          have lB := B.size
          go_wp2_with fail
          refine (Icm.out _).mono ?_
          rintro e w17 ⟨rfl, z⟩
          clear JA0 JA1 JAl JB0 JB1 JBl JC0 JC1 JCl JJ0 JJ1 JJl JM0 JM1 JMl lB
          replace JA := JA.below z
          replace JB := JB.below z
          replace JC := JC.below z
          replace JJ := JJ.below z
          replace JM := JM.below z
          replace B := below_next B z
          clear z
          have hce := hce.out
          have JA0 := JA.2.1
          have JA1 := JA.2.2
          have JAl := JA.1
          have JB0 := JB.2.1
          have JB1 := JB.2.2
          have JBl := JB.1
          have JC0 := JC.2.1
          have JC1 := JC.2.2
          have JCl := JC.1
          have JJ0 := JJ.2.1
          have JJ1 := JJ.2.2
          have JJl := JJ.1
          have JM0 := JM.2.1
          have JM1 := JM.2.2
          have JMl := JM.1
          have lB := B.size
          go_wp2_with fail
          refine wp_region_held_drew (S := (fun w' : World => Below w17.heap.size w17 w')) (by kernel_rfl) ?_ (fun hHeld => ?_)
          · (try dsimp only); first | (with_reducible exact below_dr _) | (with_reducible exact Below.refl _ _) | exact below_dr _
          have hBk := below_dr w17
          refine take_d (i := 0) (v := ?vq18_1) rfl (by rfl) (by kernel_rfl) (by kernel_rfl) (by kernel_rfl) (fun _ _ _ h => h) (Or.inl ⟨by rfl, ?hq18_1⟩) (by assumption) ?rq18_1
          case hq18_1 => (intro wS hSw; (try dsimp only at hSw); have hcq0 := cn hSw JA0; have hcq1 := cn hSw JA1; go_simp; try (with_reducible rfl))
          (try simp only [Act.put, List.setIfInBounds_toArray, List.set_cons_zero, List.set_cons_succ])
          refine take_d (i := 1) (v := ?vq18_2) rfl (by rfl) (by kernel_rfl) (by kernel_rfl) (by kernel_rfl) (fun _ _ _ h => h) (Or.inl ⟨by rfl, ?hq18_2⟩) (by assumption) ?rq18_2
          case hq18_2 => (intro wS hSw; (try dsimp only at hSw); go_simp; try (with_reducible rfl))
          (try simp only [Act.put, List.setIfInBounds_toArray, List.set_cons_zero, List.set_cons_succ])
          refine take_d (i := 2) (v := ?vq18_3) rfl (by rfl) (by kernel_rfl) (by kernel_rfl) (by kernel_rfl) (fun _ _ _ h => h) (Or.inl ⟨by rfl, ?hq18_3⟩) (by assumption) ?rq18_3
          case hq18_3 => (intro wS hSw; (try dsimp only at hSw); have hcq0 := cn hSw JA0; have hcq1 := cn hSw JA1; go_simp; try (with_reducible rfl))
          (try simp only [Act.put, List.setIfInBounds_toArray, List.set_cons_zero, List.set_cons_succ])
          refine wpAnyH_ready (rs := [3]) (by kernel_rfl) (by simp) ?_
          refine AllReadyH.cons rfl (fun K hK => ?_) AllReadyH.nil
          go_simp
          go_at_call 46
          refine (HL.out _).mono ?_
          rintro e wq18_4 ⟨rfl, bkq18_4⟩
          have hBn := below_next hBk bkq18_4
          clear hBk bkq18_4
          have hBk := hBn
          clear hBn
          try go_simp
          refine hK.out _ _ ?_ (fun hHeld => ?_)
          · (try dsimp only); exact hBk
          clear hK K
          (try simp only [Act.put, List.setIfInBounds_toArray, List.set_cons_zero, List.set_cons_succ])
          refine take_d (i := 4) (v := ?vq18_5) rfl (by rfl) (by kernel_rfl) (by kernel_rfl) (by kernel_rfl) (fun _ _ _ h => h) (Or.inl ⟨by rfl, ?hq18_5⟩) (by assumption) ?rq18_5
          case hq18_5 => (intro wS hSw; (try dsimp only at hSw); go_simp; try (with_reducible rfl))
          (try simp only [Act.put, List.setIfInBounds_toArray, List.set_cons_zero, List.set_cons_succ])
          refine take_d (i := 5) (v := ?vq18_6) rfl (by rfl) (by kernel_rfl) (by kernel_rfl) (by kernel_rfl) (fun _ _ _ h => h) (Or.inl ⟨by rfl, ?hq18_6⟩) (by assumption) ?rq18_6
          case hq18_6 => (intro wS hSw; (try dsimp only at hSw); have hcq0 := cn hSw JA0; have hcq1 := cn hSw JA1; go_simp; try (with_reducible rfl))
          (try simp only [Act.put, List.setIfInBounds_toArray, List.set_cons_zero, List.set_cons_succ])
          refine take_d (i := 6) (v := ?vq18_7) rfl (by rfl) (by kernel_rfl) (by kernel_rfl) (by kernel_rfl) (fun _ _ _ h => h) (Or.inl ⟨by rfl, ?hq18_7⟩) (by assumption) ?rq18_7
          case hq18_7 => (intro wS hSw; (try dsimp only at hSw); go_simp; try (with_reducible rfl))
          (try simp only [Act.put, List.setIfInBounds_toArray, List.set_cons_zero, List.set_cons_succ])
          refine take_d (i := 7) (v := ?vq18_8) rfl (by rfl) (by kernel_rfl) (by kernel_rfl) (by kernel_rfl) (fun _ _ _ h => h) (Or.inl ⟨by rfl, ?hq18_8⟩) (by assumption) ?rq18_8
          case hq18_8 => (intro wS hSw; (try dsimp only at hSw); have hcq0 := cn hSw JA0; have hcq1 := cn hSw JA1; go_simp; try (with_reducible rfl))
          (try simp only [Act.put, List.setIfInBounds_toArray, List.set_cons_zero, List.set_cons_succ])
          refine take_d (i := 8) (v := ?vq18_9) rfl (by rfl) (by kernel_rfl) (by kernel_rfl) (by kernel_rfl) (fun _ _ _ h => h) (Or.inl ⟨by rfl, ?hq18_9⟩) (by assumption) ?rq18_9
          case hq18_9 => (intro wS hSw; (try dsimp only at hSw); go_simp; try (with_reducible rfl))
          (try simp only [Act.put, List.setIfInBounds_toArray, List.set_cons_zero, List.set_cons_succ])
          refine take_d (i := 9) (v := ?vq18_10) rfl (by rfl) (by kernel_rfl) (by kernel_rfl) (by kernel_rfl) (fun _ _ _ h => h) (Or.inl ⟨by rfl, ?hq18_10⟩) (by assumption) ?rq18_10
          case hq18_10 => (intro wS hSw; (try dsimp only at hSw); have hcq0 := cn hSw JA0; have hcq1 := cn hSw JA1; go_simp; try (with_reducible rfl))
          (try simp only [Act.put, List.setIfInBounds_toArray, List.set_cons_zero, List.set_cons_succ])
          refine take_d (i := 10) (v := ?vq18_11) rfl (by rfl) (by kernel_rfl) (by kernel_rfl) (by kernel_rfl) (fun _ _ _ h => h) (Or.inl ⟨by rfl, ?hq18_11⟩) (by assumption) ?rq18_11
          case hq18_11 => (intro wS hSw; (try dsimp only at hSw); go_simp; try (with_reducible rfl))
          (try simp only [Act.put, List.setIfInBounds_toArray, List.set_cons_zero, List.set_cons_succ])
          refine wpAnyH_ready (rs := [11]) (by kernel_rfl) (by simp) ?_
          refine AllReadyH.cons rfl (fun K hK => ?_) AllReadyH.nil
          go_simp
          go_at_call 46
          refine (HT.out _).mono ?_
          rintro e wq18_12 ⟨rfl, bkq18_12⟩
          have hBn := below_next hBk bkq18_12
          clear hBk bkq18_12
          have hBk := hBn
          clear hBn
          try go_simp
          refine hK.out _ _ ?_ (fun hHeld => ?_)
          · (try dsimp only); exact hBk
          clear hK K
          (try simp only [Act.put, List.setIfInBounds_toArray, List.set_cons_zero, List.set_cons_succ])
          refine take_d (i := 12) (v := ?vq18_13) rfl (by rfl) (by kernel_rfl) (by kernel_rfl) (by kernel_rfl) (fun _ _ _ h => h) (Or.inl ⟨by rfl, ?hq18_13⟩) (by assumption) ?rq18_13
          case hq18_13 => (intro wS hSw; (try dsimp only at hSw); go_simp; try (with_reducible rfl))
          (try simp only [Act.put, List.setIfInBounds_toArray, List.set_cons_zero, List.set_cons_succ])
          refine take_d (i := 13) (v := ?vq18_14) rfl (by rfl) (by kernel_rfl) (by kernel_rfl) (by kernel_rfl) (fun _ _ _ h => h) (Or.inl ⟨by rfl, ?hq18_14⟩) (by assumption) ?rq18_14
          case hq18_14 => (intro wS hSw; (try dsimp only at hSw); go_simp; try (with_reducible rfl))
          (try simp only [Act.put, List.setIfInBounds_toArray, List.set_cons_zero, List.set_cons_succ])
          refine take_d (i := 14) (v := ?vq18_15) rfl (by rfl) (by kernel_rfl) (by kernel_rfl) (by kernel_rfl) (fun _ _ _ h => h) (Or.inl ⟨by rfl, ?hq18_15⟩) (by assumption) ?rq18_15
          case hq18_15 => (intro wS hSw; (try dsimp only at hSw); have hcq0 := cn hSw JA0; have hcq1 := cn hSw JA1; go_simp; try (with_reducible rfl))
          (try simp only [Act.put, List.setIfInBounds_toArray, List.set_cons_zero, List.set_cons_succ])
          refine take_d (i := 17) (v := ?vq18_16) rfl (by rfl) (by kernel_rfl) (by kernel_rfl) (by kernel_rfl) (fun _ _ _ h => h) (Or.inl ⟨by rfl, ?hq18_16⟩) (by assumption) ?rq18_16
          case hq18_16 => (intro wS hSw; (try dsimp only at hSw); go_simp; try (with_reducible rfl))
          (try simp only [Act.put, List.setIfInBounds_toArray, List.set_cons_zero, List.set_cons_succ])
          refine take_d (i := 18) (v := ?vq18_17) rfl (by rfl) (by kernel_rfl) (by kernel_rfl) (by kernel_rfl) (fun _ _ _ h => h) (Or.inl ⟨by rfl, ?hq18_17⟩) (by assumption) ?rq18_17
          case hq18_17 => (intro wS hSw; (try dsimp only at hSw); have hcq0 := cn hSw JA0; have hcq1 := cn hSw JA1; go_simp; try (with_reducible rfl))
          (try simp only [Act.put, List.setIfInBounds_toArray, List.set_cons_zero, List.set_cons_succ])
          refine take_d (i := 19) (v := ?vq18_18) rfl (by rfl) (by kernel_rfl) (by kernel_rfl) (by kernel_rfl) (fun _ _ _ h => h) (Or.inl ⟨by rfl, ?hq18_18⟩) (by assumption) ?rq18_18
          case hq18_18 => (intro wS hSw; (try dsimp only at hSw); go_simp; try (with_reducible rfl))
          (try simp only [Act.put, List.setIfInBounds_toArray, List.set_cons_zero, List.set_cons_succ])
          refine wpAnyH_ready (rs := [15]) (by kernel_rfl) (by simp) ?_
          refine AllReadyH.cons rfl (fun K hK => ?_) AllReadyH.nil
          go_simp
          go_at_call 49
          refine (FR.out _).mono ?_
          rintro e wq18_19 ⟨rfl, bkq18_19⟩
          have hBn := below_next hBk bkq18_19
          clear hBk bkq18_19
          have hBk := hBn
          clear hBn
          try go_simp
          refine hK.out _ _ ?_ (fun hHeld => ?_)
          · (try dsimp only); exact hBk
          clear hK K
          (try simp only [Act.put, List.setIfInBounds_toArray, List.set_cons_zero, List.set_cons_succ])
          refine take_d (i := 16) (v := ?vq18_20) rfl (by rfl) (by kernel_rfl) (by kernel_rfl) (by kernel_rfl) (fun _ _ _ h => h) (Or.inl ⟨by rfl, ?hq18_20⟩) (by assumption) ?rq18_20
          case hq18_20 => (intro wS hSw; (try dsimp only at hSw); go_simp; try (with_reducible rfl))
          (try simp only [Act.put, List.setIfInBounds_toArray, List.set_cons_zero, List.set_cons_succ])
          refine take_d (i := 20) (v := ?vq18_21) rfl (by rfl) (by kernel_rfl) (by kernel_rfl) (by kernel_rfl) (fun _ _ _ h => h) (Or.inl ⟨by rfl, ?hq18_21⟩) (by assumption) ?rq18_21
          case hq18_21 => (intro wS hSw; (try dsimp only at hSw); go_simp; try (with_reducible rfl))
          (try simp only [Act.put, List.setIfInBounds_toArray, List.set_cons_zero, List.set_cons_succ])
          refine take_d (i := 21) (v := ?vq18_22) rfl (by rfl) (by kernel_rfl) (by kernel_rfl) (by kernel_rfl) (fun _ _ _ h => h) (Or.inl ⟨by rfl, ?hq18_22⟩) (by assumption) ?rq18_22
          case hq18_22 => (intro wS hSw; (try dsimp only at hSw); go_simp; try (with_reducible rfl))
          (try simp only [Act.put, List.setIfInBounds_toArray, List.set_cons_zero, List.set_cons_succ])
          refine take_d (i := 22) (v := ?vq18_23) rfl (by rfl) (by kernel_rfl) (by kernel_rfl) (by kernel_rfl) (fun _ _ _ h => h) (Or.inl ⟨by rfl, ?hq18_23⟩) (by assumption) ?rq18_23
          case hq18_23 => (intro wS hSw; (try dsimp only at hSw); go_simp; try (with_reducible rfl))
          (try simp only [Act.put, List.setIfInBounds_toArray, List.set_cons_zero, List.set_cons_succ])
          refine wpAnyH_done (by kernel_rfl) ?_ _
          clear JA0 JA1 JAl JB0 JB1 JBl JC0 JC1 JCl JJ0 JJ1 JJl JM0 JM1 JMl lB
          generalize wq18_19 = w18 at hBk ⊢
          replace JA := JA.below hBk
          replace JB := JB.below hBk
          replace JC := JC.below hBk
          replace JJ := JJ.below hBk
          replace JM := JM.below hBk
          replace B := below_next B hBk
          clear hBk
          go_wp2
          go_ret
          exact ⟨rfl, B⟩
    · skip
      clear mA mB
      have hNo : ca = true → cb = false := fun h => by
        cases hh : cb
        · rfl
        · exact absurd (cM.out h hh).1 (by decide)
      replace hNo := hid hNo
      clear cM
      have JA0 := JA.2.1
      have JA1 := JA.2.2
      have JAl := JA.1
      have JB0 := JB.2.1
      have JB1 := JB.2.2
      have JBl := JB.1
      have JC0 := JC.2.1
      have JC1 := JC.2.2
      have JCl := JC.1
      have JJ0 := JJ.2.1
      have JJ1 := JJ.2.2
      have JJl := JJ.1
      have lB := B.size
      go_wp2_with fail
      clear JA0 JA1 JAl JB0 JB1 JBl JC0 JC1 JCl JJ0 JJ1 JJl lB
      have JM : TC (w11.alloc (.cells #[.int .u64 (ub t0.1), .int .u64 (ub t0.2)] 24)) w11.heap.size t0 := TC.new rfl
      replace JA := JA.alloc (.cells #[.int .u64 (ub t0.1), .int .u64 (ub t0.2)] 24)
      replace JB := JB.alloc (.cells #[.int .u64 (ub t0.1), .int .u64 (ub t0.2)] 24)
      replace JC := JC.alloc (.cells #[.int .u64 (ub t0.1), .int .u64 (ub t0.2)] 24)
      replace JJ := JJ.alloc (.cells #[.int .u64 (ub t0.1), .int .u64 (ub t0.2)] 24)
      replace B := Below.alloc B B.size (.cells #[.int .u64 (ub t0.1), .int .u64 (ub t0.2)] 24)
      generalize w11.alloc (.cells #[.int .u64 (ub t0.1), .int .u64 (ub t0.2)] 24) = w12 at *
      generalize w11.heap.size = g2 at *
      have JA0 := JA.2.1
      have JA1 := JA.2.2
      have JAl := JA.1
      have JB0 := JB.2.1
      have JB1 := JB.2.2
      have JBl := JB.1
      have JC0 := JC.2.1
      have JC1 := JC.2.2
      have JCl := JC.1
      have JJ0 := JJ.2.1
      have JJ1 := JJ.2.2
      have JJl := JJ.1
      have JM0 := JM.2.1
      have JM1 := JM.2.2
      have JMl := JM.1
      have lB := B.size
      go_wp2_with fail
      refine (Ica.out _).mono ?_
      rintro e w13 ⟨rfl, z⟩
      clear JA0 JA1 JAl JB0 JB1 JBl JC0 JC1 JCl JJ0 JJ1 JJl JM0 JM1 JMl lB
      replace JA := JA.below z
      replace JB := JB.below z
      replace JC := JC.below z
      replace JJ := JJ.below z
      replace JM := JM.below z
      replace B := below_next B z
      clear z
      cases ca
      · skip
        have hce := hce.out
        have JA0 := JA.2.1
        have JA1 := JA.2.2
        have JAl := JA.1
        have JB0 := JB.2.1
        have JB1 := JB.2.2
        have JBl := JB.1
        have JC0 := JC.2.1
        have JC1 := JC.2.2
        have JCl := JC.1
        have JJ0 := JJ.2.1
        have JJ1 := JJ.2.2
        have JJl := JJ.1
        have JM0 := JM.2.1
        have JM1 := JM.2.2
        have JMl := JM.1
        have lB := B.size
        go_wp2_with fail
        refine wp_region_held_drew (S := (fun w' : World => Below w13.heap.size w13 w')) (by kernel_rfl) ?_ (fun hHeld => ?_)
        · (try dsimp only); first | (with_reducible exact below_dr _) | (with_reducible exact Below.refl _ _) | exact below_dr _
        have hBk := below_dr w13
        refine take_d (i := 0) (v := ?vq19_1) rfl (by rfl) (by kernel_rfl) (by kernel_rfl) (by kernel_rfl) (fun _ _ _ h => h) (Or.inl ⟨by rfl, ?hq19_1⟩) (by assumption) ?rq19_1
        case hq19_1 => (intro wS hSw; (try dsimp only at hSw); have hcq0 := cn hSw JA0; have hcq1 := cn hSw JA1; go_simp; try (with_reducible rfl))
        (try simp only [Act.put, List.setIfInBounds_toArray, List.set_cons_zero, List.set_cons_succ])
        refine take_d (i := 1) (v := ?vq19_2) rfl (by rfl) (by kernel_rfl) (by kernel_rfl) (by kernel_rfl) (fun _ _ _ h => h) (Or.inl ⟨by rfl, ?hq19_2⟩) (by assumption) ?rq19_2
        case hq19_2 => (intro wS hSw; (try dsimp only at hSw); go_simp; try (with_reducible rfl))
        (try simp only [Act.put, List.setIfInBounds_toArray, List.set_cons_zero, List.set_cons_succ])
        refine take_d (i := 2) (v := ?vq19_3) rfl (by rfl) (by kernel_rfl) (by kernel_rfl) (by kernel_rfl) (fun _ _ _ h => h) (Or.inl ⟨by rfl, ?hq19_3⟩) (by assumption) ?rq19_3
        case hq19_3 => (intro wS hSw; (try dsimp only at hSw); have hcq0 := cn hSw JA0; have hcq1 := cn hSw JA1; go_simp; try (with_reducible rfl))
        (try simp only [Act.put, List.setIfInBounds_toArray, List.set_cons_zero, List.set_cons_succ])
        refine wpAnyH_ready (rs := [3]) (by kernel_rfl) (by simp) ?_
        refine AllReadyH.cons rfl (fun K hK => ?_) AllReadyH.nil
        go_simp
        go_at_call 46
        refine (HL.out _).mono ?_
        rintro e wq19_4 ⟨rfl, bkq19_4⟩
        have hBn := below_next hBk bkq19_4
        clear hBk bkq19_4
        have hBk := hBn
        clear hBn
        try go_simp
        refine hK.out _ _ ?_ (fun hHeld => ?_)
        · (try dsimp only); exact hBk
        clear hK K
        (try simp only [Act.put, List.setIfInBounds_toArray, List.set_cons_zero, List.set_cons_succ])
        refine take_d (i := 4) (v := ?vq19_5) rfl (by rfl) (by kernel_rfl) (by kernel_rfl) (by kernel_rfl) (fun _ _ _ h => h) (Or.inl ⟨by rfl, ?hq19_5⟩) (by assumption) ?rq19_5
        case hq19_5 => (intro wS hSw; (try dsimp only at hSw); go_simp; try (with_reducible rfl))
        (try simp only [Act.put, List.setIfInBounds_toArray, List.set_cons_zero, List.set_cons_succ])
        refine take_d (i := 5) (v := ?vq19_6) rfl (by rfl) (by kernel_rfl) (by kernel_rfl) (by kernel_rfl) (fun _ _ _ h => h) (Or.inl ⟨by rfl, ?hq19_6⟩) (by assumption) ?rq19_6
        case hq19_6 => (intro wS hSw; (try dsimp only at hSw); have hcq0 := cn hSw JA0; have hcq1 := cn hSw JA1; go_simp; try (with_reducible rfl))
        (try simp only [Act.put, List.setIfInBounds_toArray, List.set_cons_zero, List.set_cons_succ])
        refine take_d (i := 6) (v := ?vq19_7) rfl (by rfl) (by kernel_rfl) (by kernel_rfl) (by kernel_rfl) (fun _ _ _ h => h) (Or.inl ⟨by rfl, ?hq19_7⟩) (by assumption) ?rq19_7
        case hq19_7 => (intro wS hSw; (try dsimp only at hSw); go_simp; try (with_reducible rfl))
        (try simp only [Act.put, List.setIfInBounds_toArray, List.set_cons_zero, List.set_cons_succ])
        refine take_d (i := 7) (v := ?vq19_8) rfl (by rfl) (by kernel_rfl) (by kernel_rfl) (by kernel_rfl) (fun _ _ _ h => h) (Or.inl ⟨by rfl, ?hq19_8⟩) (by assumption) ?rq19_8
        case hq19_8 => (intro wS hSw; (try dsimp only at hSw); have hcq0 := cn hSw JA0; have hcq1 := cn hSw JA1; go_simp; try (with_reducible rfl))
        (try simp only [Act.put, List.setIfInBounds_toArray, List.set_cons_zero, List.set_cons_succ])
        refine take_d (i := 8) (v := ?vq19_9) rfl (by rfl) (by kernel_rfl) (by kernel_rfl) (by kernel_rfl) (fun _ _ _ h => h) (Or.inl ⟨by rfl, ?hq19_9⟩) (by assumption) ?rq19_9
        case hq19_9 => (intro wS hSw; (try dsimp only at hSw); go_simp; try (with_reducible rfl))
        (try simp only [Act.put, List.setIfInBounds_toArray, List.set_cons_zero, List.set_cons_succ])
        refine take_d (i := 9) (v := ?vq19_10) rfl (by rfl) (by kernel_rfl) (by kernel_rfl) (by kernel_rfl) (fun _ _ _ h => h) (Or.inl ⟨by rfl, ?hq19_10⟩) (by assumption) ?rq19_10
        case hq19_10 => (intro wS hSw; (try dsimp only at hSw); have hcq0 := cn hSw JA0; have hcq1 := cn hSw JA1; go_simp; try (with_reducible rfl))
        (try simp only [Act.put, List.setIfInBounds_toArray, List.set_cons_zero, List.set_cons_succ])
        refine take_d (i := 10) (v := ?vq19_11) rfl (by rfl) (by kernel_rfl) (by kernel_rfl) (by kernel_rfl) (fun _ _ _ h => h) (Or.inl ⟨by rfl, ?hq19_11⟩) (by assumption) ?rq19_11
        case hq19_11 => (intro wS hSw; (try dsimp only at hSw); go_simp; try (with_reducible rfl))
        (try simp only [Act.put, List.setIfInBounds_toArray, List.set_cons_zero, List.set_cons_succ])
        refine wpAnyH_ready (rs := [11]) (by kernel_rfl) (by simp) ?_
        refine AllReadyH.cons rfl (fun K hK => ?_) AllReadyH.nil
        go_simp
        go_at_call 46
        refine (HT.out _).mono ?_
        rintro e wq19_12 ⟨rfl, bkq19_12⟩
        have hBn := below_next hBk bkq19_12
        clear hBk bkq19_12
        have hBk := hBn
        clear hBn
        try go_simp
        refine hK.out _ _ ?_ (fun hHeld => ?_)
        · (try dsimp only); exact hBk
        clear hK K
        (try simp only [Act.put, List.setIfInBounds_toArray, List.set_cons_zero, List.set_cons_succ])
        refine take_d (i := 12) (v := ?vq19_13) rfl (by rfl) (by kernel_rfl) (by kernel_rfl) (by kernel_rfl) (fun _ _ _ h => h) (Or.inl ⟨by rfl, ?hq19_13⟩) (by assumption) ?rq19_13
        case hq19_13 => (intro wS hSw; (try dsimp only at hSw); go_simp; try (with_reducible rfl))
        (try simp only [Act.put, List.setIfInBounds_toArray, List.set_cons_zero, List.set_cons_succ])
        refine take_d (i := 13) (v := ?vq19_14) rfl (by rfl) (by kernel_rfl) (by kernel_rfl) (by kernel_rfl) (fun _ _ _ h => h) (Or.inl ⟨by rfl, ?hq19_14⟩) (by assumption) ?rq19_14
        case hq19_14 => (intro wS hSw; (try dsimp only at hSw); go_simp; try (with_reducible rfl))
        (try simp only [Act.put, List.setIfInBounds_toArray, List.set_cons_zero, List.set_cons_succ])
        refine take_d (i := 14) (v := ?vq19_15) rfl (by rfl) (by kernel_rfl) (by kernel_rfl) (by kernel_rfl) (fun _ _ _ h => h) (Or.inl ⟨by rfl, ?hq19_15⟩) (by assumption) ?rq19_15
        case hq19_15 => (intro wS hSw; (try dsimp only at hSw); have hcq0 := cn hSw JA0; have hcq1 := cn hSw JA1; go_simp; try (with_reducible rfl))
        (try simp only [Act.put, List.setIfInBounds_toArray, List.set_cons_zero, List.set_cons_succ])
        refine take_d (i := 17) (v := ?vq19_16) rfl (by rfl) (by kernel_rfl) (by kernel_rfl) (by kernel_rfl) (fun _ _ _ h => h) (Or.inl ⟨by rfl, ?hq19_16⟩) (by assumption) ?rq19_16
        case hq19_16 => (intro wS hSw; (try dsimp only at hSw); go_simp; try (with_reducible rfl))
        (try simp only [Act.put, List.setIfInBounds_toArray, List.set_cons_zero, List.set_cons_succ])
        refine take_d (i := 18) (v := ?vq19_17) rfl (by rfl) (by kernel_rfl) (by kernel_rfl) (by kernel_rfl) (fun _ _ _ h => h) (Or.inl ⟨by rfl, ?hq19_17⟩) (by assumption) ?rq19_17
        case hq19_17 => (intro wS hSw; (try dsimp only at hSw); have hcq0 := cn hSw JA0; have hcq1 := cn hSw JA1; go_simp; try (with_reducible rfl))
        (try simp only [Act.put, List.setIfInBounds_toArray, List.set_cons_zero, List.set_cons_succ])
        refine take_d (i := 19) (v := ?vq19_18) rfl (by rfl) (by kernel_rfl) (by kernel_rfl) (by kernel_rfl) (fun _ _ _ h => h) (Or.inl ⟨by rfl, ?hq19_18⟩) (by assumption) ?rq19_18
        case hq19_18 => (intro wS hSw; (try dsimp only at hSw); go_simp; try (with_reducible rfl))
        (try simp only [Act.put, List.setIfInBounds_toArray, List.set_cons_zero, List.set_cons_succ])
        refine wpAnyH_ready (rs := [15]) (by kernel_rfl) (by simp) ?_
        refine AllReadyH.cons rfl (fun K hK => ?_) AllReadyH.nil
        go_simp
        go_at_call 49
        refine (FR.out _).mono ?_
        rintro e wq19_19 ⟨rfl, bkq19_19⟩
        have hBn := below_next hBk bkq19_19
        clear hBk bkq19_19
        have hBk := hBn
        clear hBn
        try go_simp
        refine hK.out _ _ ?_ (fun hHeld => ?_)
        · (try dsimp only); exact hBk
        clear hK K
        (try simp only [Act.put, List.setIfInBounds_toArray, List.set_cons_zero, List.set_cons_succ])
        refine take_d (i := 16) (v := ?vq19_20) rfl (by rfl) (by kernel_rfl) (by kernel_rfl) (by kernel_rfl) (fun _ _ _ h => h) (Or.inl ⟨by rfl, ?hq19_20⟩) (by assumption) ?rq19_20
        case hq19_20 => (intro wS hSw; (try dsimp only at hSw); go_simp; try (with_reducible rfl))
        (try simp only [Act.put, List.setIfInBounds_toArray, List.set_cons_zero, List.set_cons_succ])
        refine take_d (i := 20) (v := ?vq19_21) rfl (by rfl) (by kernel_rfl) (by kernel_rfl) (by kernel_rfl) (fun _ _ _ h => h) (Or.inl ⟨by rfl, ?hq19_21⟩) (by assumption) ?rq19_21
        case hq19_21 => (intro wS hSw; (try dsimp only at hSw); go_simp; try (with_reducible rfl))
        (try simp only [Act.put, List.setIfInBounds_toArray, List.set_cons_zero, List.set_cons_succ])
        refine take_d (i := 21) (v := ?vq19_22) rfl (by rfl) (by kernel_rfl) (by kernel_rfl) (by kernel_rfl) (fun _ _ _ h => h) (Or.inl ⟨by rfl, ?hq19_22⟩) (by assumption) ?rq19_22
        case hq19_22 => (intro wS hSw; (try dsimp only at hSw); go_simp; try (with_reducible rfl))
        (try simp only [Act.put, List.setIfInBounds_toArray, List.set_cons_zero, List.set_cons_succ])
        refine take_d (i := 22) (v := ?vq19_23) rfl (by rfl) (by kernel_rfl) (by kernel_rfl) (by kernel_rfl) (fun _ _ _ h => h) (Or.inl ⟨by rfl, ?hq19_23⟩) (by assumption) ?rq19_23
        case hq19_23 => (intro wS hSw; (try dsimp only at hSw); go_simp; try (with_reducible rfl))
        (try simp only [Act.put, List.setIfInBounds_toArray, List.set_cons_zero, List.set_cons_succ])
        refine wpAnyH_done (by kernel_rfl) ?_ _
        clear JA0 JA1 JAl JB0 JB1 JBl JC0 JC1 JCl JJ0 JJ1 JJl JM0 JM1 JMl lB
        generalize wq19_19 = w14 at hBk ⊢
        replace JA := JA.below hBk
        replace JB := JB.below hBk
        replace JC := JC.below hBk
        replace JJ := JJ.below hBk
        replace JM := JM.below hBk
        replace B := below_next B hBk
        clear hBk
        go_wp2
        go_ret
        exact ⟨rfl, B⟩
      · skip
        obtain rfl : cb = false := hNo.out (by trivial)
        have JA0 := JA.2.1
        have JA1 := JA.2.2
        have JAl := JA.1
        have JB0 := JB.2.1
        have JB1 := JB.2.2
        have JBl := JB.1
        have JC0 := JC.2.1
        have JC1 := JC.2.2
        have JCl := JC.1
        have JJ0 := JJ.2.1
        have JJ1 := JJ.2.2
        have JJl := JJ.1
        have JM0 := JM.2.1
        have JM1 := JM.2.2
        have JMl := JM.1
        have lB := B.size
        go_wp2_with fail
        refine (Icb.out _).mono ?_
        rintro e w14 ⟨rfl, z⟩
        clear JA0 JA1 JAl JB0 JB1 JBl JC0 JC1 JCl JJ0 JJ1 JJl JM0 JM1 JMl lB
        replace JA := JA.below z
        replace JB := JB.below z
        replace JC := JC.below z
        replace JJ := JJ.below z
        replace JM := JM.below z
        replace B := below_next B z
        clear z
        have hce := hce.out
        have JA0 := JA.2.1
        have JA1 := JA.2.2
        have JAl := JA.1
        have JB0 := JB.2.1
        have JB1 := JB.2.2
        have JBl := JB.1
        have JC0 := JC.2.1
        have JC1 := JC.2.2
        have JCl := JC.1
        have JJ0 := JJ.2.1
        have JJ1 := JJ.2.2
        have JJl := JJ.1
        have JM0 := JM.2.1
        have JM1 := JM.2.2
        have JMl := JM.1
        have lB := B.size
        go_wp2_with fail
        refine wp_region_held_drew (S := (fun w' : World => Below w14.heap.size w14 w')) (by kernel_rfl) ?_ (fun hHeld => ?_)
        · (try dsimp only); first | (with_reducible exact below_dr _) | (with_reducible exact Below.refl _ _) | exact below_dr _
        have hBk := below_dr w14
        refine take_d (i := 0) (v := ?vq20_1) rfl (by rfl) (by kernel_rfl) (by kernel_rfl) (by kernel_rfl) (fun _ _ _ h => h) (Or.inl ⟨by rfl, ?hq20_1⟩) (by assumption) ?rq20_1
        case hq20_1 => (intro wS hSw; (try dsimp only at hSw); have hcq0 := cn hSw JA0; have hcq1 := cn hSw JA1; go_simp; try (with_reducible rfl))
        (try simp only [Act.put, List.setIfInBounds_toArray, List.set_cons_zero, List.set_cons_succ])
        refine take_d (i := 1) (v := ?vq20_2) rfl (by rfl) (by kernel_rfl) (by kernel_rfl) (by kernel_rfl) (fun _ _ _ h => h) (Or.inl ⟨by rfl, ?hq20_2⟩) (by assumption) ?rq20_2
        case hq20_2 => (intro wS hSw; (try dsimp only at hSw); go_simp; try (with_reducible rfl))
        (try simp only [Act.put, List.setIfInBounds_toArray, List.set_cons_zero, List.set_cons_succ])
        refine take_d (i := 2) (v := ?vq20_3) rfl (by rfl) (by kernel_rfl) (by kernel_rfl) (by kernel_rfl) (fun _ _ _ h => h) (Or.inl ⟨by rfl, ?hq20_3⟩) (by assumption) ?rq20_3
        case hq20_3 => (intro wS hSw; (try dsimp only at hSw); have hcq0 := cn hSw JA0; have hcq1 := cn hSw JA1; go_simp; try (with_reducible rfl))
        (try simp only [Act.put, List.setIfInBounds_toArray, List.set_cons_zero, List.set_cons_succ])
        refine wpAnyH_ready (rs := [3]) (by kernel_rfl) (by simp) ?_
        refine AllReadyH.cons rfl (fun K hK => ?_) AllReadyH.nil
        go_simp
        go_at_call 46
        refine (HL.out _).mono ?_
        rintro e wq20_4 ⟨rfl, bkq20_4⟩
        have hBn := below_next hBk bkq20_4
        clear hBk bkq20_4
        have hBk := hBn
        clear hBn
        try go_simp
        refine hK.out _ _ ?_ (fun hHeld => ?_)
        · (try dsimp only); exact hBk
        clear hK K
        (try simp only [Act.put, List.setIfInBounds_toArray, List.set_cons_zero, List.set_cons_succ])
        refine take_d (i := 4) (v := ?vq20_5) rfl (by rfl) (by kernel_rfl) (by kernel_rfl) (by kernel_rfl) (fun _ _ _ h => h) (Or.inl ⟨by rfl, ?hq20_5⟩) (by assumption) ?rq20_5
        case hq20_5 => (intro wS hSw; (try dsimp only at hSw); go_simp; try (with_reducible rfl))
        (try simp only [Act.put, List.setIfInBounds_toArray, List.set_cons_zero, List.set_cons_succ])
        refine take_d (i := 5) (v := ?vq20_6) rfl (by rfl) (by kernel_rfl) (by kernel_rfl) (by kernel_rfl) (fun _ _ _ h => h) (Or.inl ⟨by rfl, ?hq20_6⟩) (by assumption) ?rq20_6
        case hq20_6 => (intro wS hSw; (try dsimp only at hSw); have hcq0 := cn hSw JA0; have hcq1 := cn hSw JA1; go_simp; try (with_reducible rfl))
        (try simp only [Act.put, List.setIfInBounds_toArray, List.set_cons_zero, List.set_cons_succ])
        refine take_d (i := 6) (v := ?vq20_7) rfl (by rfl) (by kernel_rfl) (by kernel_rfl) (by kernel_rfl) (fun _ _ _ h => h) (Or.inl ⟨by rfl, ?hq20_7⟩) (by assumption) ?rq20_7
        case hq20_7 => (intro wS hSw; (try dsimp only at hSw); go_simp; try (with_reducible rfl))
        (try simp only [Act.put, List.setIfInBounds_toArray, List.set_cons_zero, List.set_cons_succ])
        refine take_d (i := 7) (v := ?vq20_8) rfl (by rfl) (by kernel_rfl) (by kernel_rfl) (by kernel_rfl) (fun _ _ _ h => h) (Or.inl ⟨by rfl, ?hq20_8⟩) (by assumption) ?rq20_8
        case hq20_8 => (intro wS hSw; (try dsimp only at hSw); have hcq0 := cn hSw JA0; have hcq1 := cn hSw JA1; go_simp; try (with_reducible rfl))
        (try simp only [Act.put, List.setIfInBounds_toArray, List.set_cons_zero, List.set_cons_succ])
        refine take_d (i := 8) (v := ?vq20_9) rfl (by rfl) (by kernel_rfl) (by kernel_rfl) (by kernel_rfl) (fun _ _ _ h => h) (Or.inl ⟨by rfl, ?hq20_9⟩) (by assumption) ?rq20_9
        case hq20_9 => (intro wS hSw; (try dsimp only at hSw); go_simp; try (with_reducible rfl))
        (try simp only [Act.put, List.setIfInBounds_toArray, List.set_cons_zero, List.set_cons_succ])
        refine take_d (i := 9) (v := ?vq20_10) rfl (by rfl) (by kernel_rfl) (by kernel_rfl) (by kernel_rfl) (fun _ _ _ h => h) (Or.inl ⟨by rfl, ?hq20_10⟩) (by assumption) ?rq20_10
        case hq20_10 => (intro wS hSw; (try dsimp only at hSw); have hcq0 := cn hSw JA0; have hcq1 := cn hSw JA1; go_simp; try (with_reducible rfl))
        (try simp only [Act.put, List.setIfInBounds_toArray, List.set_cons_zero, List.set_cons_succ])
        refine take_d (i := 10) (v := ?vq20_11) rfl (by rfl) (by kernel_rfl) (by kernel_rfl) (by kernel_rfl) (fun _ _ _ h => h) (Or.inl ⟨by rfl, ?hq20_11⟩) (by assumption) ?rq20_11
        case hq20_11 => (intro wS hSw; (try dsimp only at hSw); go_simp; try (with_reducible rfl))
        (try simp only [Act.put, List.setIfInBounds_toArray, List.set_cons_zero, List.set_cons_succ])
        refine wpAnyH_ready (rs := [11]) (by kernel_rfl) (by simp) ?_
        refine AllReadyH.cons rfl (fun K hK => ?_) AllReadyH.nil
        go_simp
        go_at_call 46
        refine (HT.out _).mono ?_
        rintro e wq20_12 ⟨rfl, bkq20_12⟩
        have hBn := below_next hBk bkq20_12
        clear hBk bkq20_12
        have hBk := hBn
        clear hBn
        try go_simp
        refine hK.out _ _ ?_ (fun hHeld => ?_)
        · (try dsimp only); exact hBk
        clear hK K
        (try simp only [Act.put, List.setIfInBounds_toArray, List.set_cons_zero, List.set_cons_succ])
        refine take_d (i := 12) (v := ?vq20_13) rfl (by rfl) (by kernel_rfl) (by kernel_rfl) (by kernel_rfl) (fun _ _ _ h => h) (Or.inl ⟨by rfl, ?hq20_13⟩) (by assumption) ?rq20_13
        case hq20_13 => (intro wS hSw; (try dsimp only at hSw); go_simp; try (with_reducible rfl))
        (try simp only [Act.put, List.setIfInBounds_toArray, List.set_cons_zero, List.set_cons_succ])
        refine take_d (i := 13) (v := ?vq20_14) rfl (by rfl) (by kernel_rfl) (by kernel_rfl) (by kernel_rfl) (fun _ _ _ h => h) (Or.inl ⟨by rfl, ?hq20_14⟩) (by assumption) ?rq20_14
        case hq20_14 => (intro wS hSw; (try dsimp only at hSw); go_simp; try (with_reducible rfl))
        (try simp only [Act.put, List.setIfInBounds_toArray, List.set_cons_zero, List.set_cons_succ])
        refine take_d (i := 14) (v := ?vq20_15) rfl (by rfl) (by kernel_rfl) (by kernel_rfl) (by kernel_rfl) (fun _ _ _ h => h) (Or.inl ⟨by rfl, ?hq20_15⟩) (by assumption) ?rq20_15
        case hq20_15 => (intro wS hSw; (try dsimp only at hSw); have hcq0 := cn hSw JA0; have hcq1 := cn hSw JA1; go_simp; try (with_reducible rfl))
        (try simp only [Act.put, List.setIfInBounds_toArray, List.set_cons_zero, List.set_cons_succ])
        refine take_d (i := 17) (v := ?vq20_16) rfl (by rfl) (by kernel_rfl) (by kernel_rfl) (by kernel_rfl) (fun _ _ _ h => h) (Or.inl ⟨by rfl, ?hq20_16⟩) (by assumption) ?rq20_16
        case hq20_16 => (intro wS hSw; (try dsimp only at hSw); go_simp; try (with_reducible rfl))
        (try simp only [Act.put, List.setIfInBounds_toArray, List.set_cons_zero, List.set_cons_succ])
        refine take_d (i := 18) (v := ?vq20_17) rfl (by rfl) (by kernel_rfl) (by kernel_rfl) (by kernel_rfl) (fun _ _ _ h => h) (Or.inl ⟨by rfl, ?hq20_17⟩) (by assumption) ?rq20_17
        case hq20_17 => (intro wS hSw; (try dsimp only at hSw); have hcq0 := cn hSw JA0; have hcq1 := cn hSw JA1; go_simp; try (with_reducible rfl))
        (try simp only [Act.put, List.setIfInBounds_toArray, List.set_cons_zero, List.set_cons_succ])
        refine take_d (i := 19) (v := ?vq20_18) rfl (by rfl) (by kernel_rfl) (by kernel_rfl) (by kernel_rfl) (fun _ _ _ h => h) (Or.inl ⟨by rfl, ?hq20_18⟩) (by assumption) ?rq20_18
        case hq20_18 => (intro wS hSw; (try dsimp only at hSw); go_simp; try (with_reducible rfl))
        (try simp only [Act.put, List.setIfInBounds_toArray, List.set_cons_zero, List.set_cons_succ])
        refine wpAnyH_ready (rs := [15]) (by kernel_rfl) (by simp) ?_
        refine AllReadyH.cons rfl (fun K hK => ?_) AllReadyH.nil
        go_simp
        go_at_call 49
        refine (FR.out _).mono ?_
        rintro e wq20_19 ⟨rfl, bkq20_19⟩
        have hBn := below_next hBk bkq20_19
        clear hBk bkq20_19
        have hBk := hBn
        clear hBn
        try go_simp
        refine hK.out _ _ ?_ (fun hHeld => ?_)
        · (try dsimp only); exact hBk
        clear hK K
        (try simp only [Act.put, List.setIfInBounds_toArray, List.set_cons_zero, List.set_cons_succ])
        refine take_d (i := 16) (v := ?vq20_20) rfl (by rfl) (by kernel_rfl) (by kernel_rfl) (by kernel_rfl) (fun _ _ _ h => h) (Or.inl ⟨by rfl, ?hq20_20⟩) (by assumption) ?rq20_20
        case hq20_20 => (intro wS hSw; (try dsimp only at hSw); go_simp; try (with_reducible rfl))
        (try simp only [Act.put, List.setIfInBounds_toArray, List.set_cons_zero, List.set_cons_succ])
        refine take_d (i := 20) (v := ?vq20_21) rfl (by rfl) (by kernel_rfl) (by kernel_rfl) (by kernel_rfl) (fun _ _ _ h => h) (Or.inl ⟨by rfl, ?hq20_21⟩) (by assumption) ?rq20_21
        case hq20_21 => (intro wS hSw; (try dsimp only at hSw); go_simp; try (with_reducible rfl))
        (try simp only [Act.put, List.setIfInBounds_toArray, List.set_cons_zero, List.set_cons_succ])
        refine take_d (i := 21) (v := ?vq20_22) rfl (by rfl) (by kernel_rfl) (by kernel_rfl) (by kernel_rfl) (fun _ _ _ h => h) (Or.inl ⟨by rfl, ?hq20_22⟩) (by assumption) ?rq20_22
        case hq20_22 => (intro wS hSw; (try dsimp only at hSw); go_simp; try (with_reducible rfl))
        (try simp only [Act.put, List.setIfInBounds_toArray, List.set_cons_zero, List.set_cons_succ])
        refine take_d (i := 22) (v := ?vq20_23) rfl (by rfl) (by kernel_rfl) (by kernel_rfl) (by kernel_rfl) (fun _ _ _ h => h) (Or.inl ⟨by rfl, ?hq20_23⟩) (by assumption) ?rq20_23
        case hq20_23 => (intro wS hSw; (try dsimp only at hSw); go_simp; try (with_reducible rfl))
        (try simp only [Act.put, List.setIfInBounds_toArray, List.set_cons_zero, List.set_cons_succ])
        refine wpAnyH_done (by kernel_rfl) ?_ _
        clear JA0 JA1 JAl JB0 JB1 JBl JC0 JC1 JCl JJ0 JJ1 JJl JM0 JM1 JMl lB
        generalize wq20_19 = w15 at hBk ⊢
        replace JA := JA.below hBk
        replace JB := JB.below hBk
        replace JC := JC.below hBk
        replace JJ := JJ.below hBk
        replace JM := JM.below hBk
        replace B := below_next B hBk
        clear hBk
        go_wp2
        go_ret
        exact ⟨rfl, B⟩
  · skip
    have JA0 := JA.2.1
    have JA1 := JA.2.2
    have JAl := JA.1
    have JB0 := JB.2.1
    have JB1 := JB.2.2
    have JBl := JB.1
    have JC0 := JC.2.1
    have JC1 := JC.2.2
    have JCl := JC.1
    have JJ0 := JJ.2.1
    have JJ1 := JJ.2.2
    have JJl := JJ.1
    have lB := B.size
    go_wp2_with fail
    refine (Iaj.out _).mono ?_
    rintro e w8 ⟨rfl, z⟩
    clear JA0 JA1 JAl JB0 JB1 JBl JC0 JC1 JCl JJ0 JJ1 JJl lB
    replace JA := JA.below z
    replace JB := JB.below z
    replace JC := JC.below z
    replace JJ := JJ.below z
    replace B := below_next B z
    clear z
    have JA0 := JA.2.1
    have JA1 := JA.2.2
    have JAl := JA.1
    have JB0 := JB.2.1
    have JB1 := JB.2.2
    have JBl := JB.1
    have JC0 := JC.2.1
    have JC1 := JC.2.2
    have JCl := JC.1
    have JJ0 := JJ.2.1
    have JJ1 := JJ.2.2
    have JJl := JJ.1
    have lB := B.size
    go_wp2_with fail
    refine (Ibj.out _).mono ?_
    rintro e w9 ⟨rfl, z⟩
    clear JA0 JA1 JAl JB0 JB1 JBl JC0 JC1 JCl JJ0 JJ1 JJl lB
    replace JA := JA.below z
    replace JB := JB.below z
    replace JC := JC.below z
    replace JJ := JJ.below z
    replace B := below_next B z
    clear z
    have JA0 := JA.2.1
    have JA1 := JA.2.2
    have JAl := JA.1
    have JB0 := JB.2.1
    have JB1 := JB.2.2
    have JBl := JB.1
    have JC0 := JC.2.1
    have JC1 := JC.2.2
    have JCl := JC.1
    have JJ0 := JJ.2.1
    have JJ1 := JJ.2.2
    have JJl := JJ.1
    have lB := B.size
    go_wp2_with fail
    refine (Iac.out _).mono ?_
    rintro e w10 ⟨rfl, z⟩
    clear JA0 JA1 JAl JB0 JB1 JBl JC0 JC1 JCl JJ0 JJ1 JJl lB
    replace JA := JA.below z
    replace JB := JB.below z
    replace JC := JC.below z
    replace JJ := JJ.below z
    replace B := below_next B z
    clear z
    have JA0 := JA.2.1
    have JA1 := JA.2.2
    have JAl := JA.1
    have JB0 := JB.2.1
    have JB1 := JB.2.2
    have JBl := JB.1
    have JC0 := JC.2.1
    have JC1 := JC.2.2
    have JCl := JC.1
    have JJ0 := JJ.2.1
    have JJ1 := JJ.2.2
    have JJl := JJ.1
    have lB := B.size
    go_wp2_with fail
    refine (Ibc.out _).mono ?_
    rintro e w11 ⟨rfl, z⟩
    clear JA0 JA1 JAl JB0 JB1 JBl JC0 JC1 JCl JJ0 JJ1 JJl lB
    replace JA := JA.below z
    replace JB := JB.below z
    replace JC := JC.below z
    replace JJ := JJ.below z
    replace B := below_next B z
    clear z
    have JA0 := JA.2.1
    have JA1 := JA.2.2
    have JAl := JA.1
    have JB0 := JB.2.1
    have JB1 := JB.2.2
    have JBl := JB.1
    have JC0 := JC.2.1
    have JC1 := JC.2.2
    have JCl := JC.1
    have JJ0 := JJ.2.1
    have JJ1 := JJ.2.2
    have JJl := JJ.1
    have lB := B.size
    go_wp2_with fail
    refine (XM.out _).mono ?_
    rintro e w12 ⟨rfl, z⟩
    clear JA0 JA1 JAl JB0 JB1 JBl JC0 JC1 JCl JJ0 JJ1 JJl lB
    replace JA := JA.below z
    replace JB := JB.below z
    replace JC := JC.below z
    replace JJ := JJ.below z
    replace B := below_next B z
    clear z
    rcases (show mk = true ∨ mk = false by cases mk <;> simp) with rfl | rfl
    · skip
      obtain rfl : ma = true := mA.out (by trivial)
      obtain rfl : mb = true := mB.out (by trivial)
      clear mA mB
      have JA0 := JA.2.1
      have JA1 := JA.2.2
      have JAl := JA.1
      have JB0 := JB.2.1
      have JB1 := JB.2.2
      have JBl := JB.1
      have JC0 := JC.2.1
      have JC1 := JC.2.2
      have JCl := JC.1
      have JJ0 := JJ.2.1
      have JJ1 := JJ.2.2
      have JJl := JJ.1
      have lB := B.size
      go_wp2_with fail
      clear JA0 JA1 JAl JB0 JB1 JBl JC0 JC1 JCl JJ0 JJ1 JJl lB
      have JM : TC (w12.alloc (.cells #[.int .u64 (ub M0.1), .int .u64 (ub M0.2)] 24)) w12.heap.size M0 := TC.new rfl
      replace JA := JA.alloc (.cells #[.int .u64 (ub M0.1), .int .u64 (ub M0.2)] 24)
      replace JB := JB.alloc (.cells #[.int .u64 (ub M0.1), .int .u64 (ub M0.2)] 24)
      replace JC := JC.alloc (.cells #[.int .u64 (ub M0.1), .int .u64 (ub M0.2)] 24)
      replace JJ := JJ.alloc (.cells #[.int .u64 (ub M0.1), .int .u64 (ub M0.2)] 24)
      replace B := Below.alloc B B.size (.cells #[.int .u64 (ub M0.1), .int .u64 (ub M0.2)] 24)
      generalize w12.alloc (.cells #[.int .u64 (ub M0.1), .int .u64 (ub M0.2)] 24) = w13 at *
      generalize w12.heap.size = g2 at *
      have JA0 := JA.2.1
      have JA1 := JA.2.2
      have JAl := JA.1
      have JB0 := JB.2.1
      have JB1 := JB.2.2
      have JBl := JB.1
      have JC0 := JC.2.1
      have JC1 := JC.2.2
      have JCl := JC.1
      have JJ0 := JJ.2.1
      have JJ1 := JJ.2.2
      have JJl := JJ.1
      have JM0 := JM.2.1
      have JM1 := JM.2.2
      have JMl := JM.1
      have lB := B.size
      go_wp2_with fail
      refine (Ima.out _).mono ?_
      rintro e w14 ⟨rfl, z⟩
      clear JA0 JA1 JAl JB0 JB1 JBl JC0 JC1 JCl JJ0 JJ1 JJl JM0 JM1 JMl lB
      replace JA := JA.below z
      replace JB := JB.below z
      replace JC := JC.below z
      replace JJ := JJ.below z
      replace JM := JM.below z
      replace B := below_next B z
      clear z
      have JA0 := JA.2.1
      have JA1 := JA.2.2
      have JAl := JA.1
      have JB0 := JB.2.1
      have JB1 := JB.2.2
      have JBl := JB.1
      have JC0 := JC.2.1
      have JC1 := JC.2.2
      have JCl := JC.1
      have JJ0 := JJ.2.1
      have JJ1 := JJ.2.2
      have JJl := JJ.1
      have JM0 := JM.2.1
      have JM1 := JM.2.2
      have JMl := JM.1
      have lB := B.size
      go_wp2_with fail
      refine (Imb.out _).mono ?_
      rintro e w15 ⟨rfl, z⟩
      clear JA0 JA1 JAl JB0 JB1 JBl JC0 JC1 JCl JJ0 JJ1 JJl JM0 JM1 JMl lB
      replace JA := JA.below z
      replace JB := JB.below z
      replace JC := JC.below z
      replace JJ := JJ.below z
      replace JM := JM.below z
      replace B := below_next B z
      clear z
      have JA0 := JA.2.1
      have JA1 := JA.2.2
      have JAl := JA.1
      have JB0 := JB.2.1
      have JB1 := JB.2.2
      have JBl := JB.1
      have JC0 := JC.2.1
      have JC1 := JC.2.2
      have JCl := JC.1
      have JJ0 := JJ.2.1
      have JJ1 := JJ.2.2
      have JJl := JJ.1
      have JM0 := JM.2.1
      have JM1 := JM.2.2
      have JMl := JM.1
      have lB := B.size
      go_wp2_with fail
      refine (Ica.out _).mono ?_
      rintro e w16 ⟨rfl, z⟩
      clear JA0 JA1 JAl JB0 JB1 JBl JC0 JC1 JCl JJ0 JJ1 JJl JM0 JM1 JMl lB
      replace JA := JA.below z
      replace JB := JB.below z
      replace JC := JC.below z
      replace JJ := JJ.below z
      replace JM := JM.below z
      replace B := below_next B z
      clear z
      cases ca
      · skip
        have hce := hce.out
        have JA0 := JA.2.1
        have JA1 := JA.2.2
        have JAl := JA.1
        have JB0 := JB.2.1
        have JB1 := JB.2.2
        have JBl := JB.1
        have JC0 := JC.2.1
        have JC1 := JC.2.2
        have JCl := JC.1
        have JJ0 := JJ.2.1
        have JJ1 := JJ.2.2
        have JJl := JJ.1
        have JM0 := JM.2.1
        have JM1 := JM.2.2
        have JMl := JM.1
        have lB := B.size
        go_wp2_with fail
        refine wp_region_held_drew (S := (fun w' : World => Below w16.heap.size w16 w')) (by kernel_rfl) ?_ (fun hHeld => ?_)
        · (try dsimp only); first | (with_reducible exact below_dr _) | (with_reducible exact Below.refl _ _) | exact below_dr _
        have hBk := below_dr w16
        refine take_d (i := 0) (v := ?vq21_1) rfl (by rfl) (by kernel_rfl) (by kernel_rfl) (by kernel_rfl) (fun _ _ _ h => h) (Or.inl ⟨by rfl, ?hq21_1⟩) (by assumption) ?rq21_1
        case hq21_1 => (intro wS hSw; (try dsimp only at hSw); have hcq0 := cn hSw JA0; have hcq1 := cn hSw JA1; go_simp; try (with_reducible rfl))
        (try simp only [Act.put, List.setIfInBounds_toArray, List.set_cons_zero, List.set_cons_succ])
        refine take_d (i := 1) (v := ?vq21_2) rfl (by rfl) (by kernel_rfl) (by kernel_rfl) (by kernel_rfl) (fun _ _ _ h => h) (Or.inl ⟨by rfl, ?hq21_2⟩) (by assumption) ?rq21_2
        case hq21_2 => (intro wS hSw; (try dsimp only at hSw); go_simp; try (with_reducible rfl))
        (try simp only [Act.put, List.setIfInBounds_toArray, List.set_cons_zero, List.set_cons_succ])
        refine take_d (i := 2) (v := ?vq21_3) rfl (by rfl) (by kernel_rfl) (by kernel_rfl) (by kernel_rfl) (fun _ _ _ h => h) (Or.inl ⟨by rfl, ?hq21_3⟩) (by assumption) ?rq21_3
        case hq21_3 => (intro wS hSw; (try dsimp only at hSw); have hcq0 := cn hSw JA0; have hcq1 := cn hSw JA1; go_simp; try (with_reducible rfl))
        (try simp only [Act.put, List.setIfInBounds_toArray, List.set_cons_zero, List.set_cons_succ])
        refine wpAnyH_ready (rs := [3]) (by kernel_rfl) (by simp) ?_
        refine AllReadyH.cons rfl (fun K hK => ?_) AllReadyH.nil
        go_simp
        go_at_call 46
        refine (HL.out _).mono ?_
        rintro e wq21_4 ⟨rfl, bkq21_4⟩
        have hBn := below_next hBk bkq21_4
        clear hBk bkq21_4
        have hBk := hBn
        clear hBn
        try go_simp
        refine hK.out _ _ ?_ (fun hHeld => ?_)
        · (try dsimp only); exact hBk
        clear hK K
        (try simp only [Act.put, List.setIfInBounds_toArray, List.set_cons_zero, List.set_cons_succ])
        refine take_d (i := 4) (v := ?vq21_5) rfl (by rfl) (by kernel_rfl) (by kernel_rfl) (by kernel_rfl) (fun _ _ _ h => h) (Or.inl ⟨by rfl, ?hq21_5⟩) (by assumption) ?rq21_5
        case hq21_5 => (intro wS hSw; (try dsimp only at hSw); go_simp; try (with_reducible rfl))
        (try simp only [Act.put, List.setIfInBounds_toArray, List.set_cons_zero, List.set_cons_succ])
        refine take_d (i := 5) (v := ?vq21_6) rfl (by rfl) (by kernel_rfl) (by kernel_rfl) (by kernel_rfl) (fun _ _ _ h => h) (Or.inl ⟨by rfl, ?hq21_6⟩) (by assumption) ?rq21_6
        case hq21_6 => (intro wS hSw; (try dsimp only at hSw); have hcq0 := cn hSw JA0; have hcq1 := cn hSw JA1; go_simp; try (with_reducible rfl))
        (try simp only [Act.put, List.setIfInBounds_toArray, List.set_cons_zero, List.set_cons_succ])
        refine take_d (i := 6) (v := ?vq21_7) rfl (by rfl) (by kernel_rfl) (by kernel_rfl) (by kernel_rfl) (fun _ _ _ h => h) (Or.inl ⟨by rfl, ?hq21_7⟩) (by assumption) ?rq21_7
        case hq21_7 => (intro wS hSw; (try dsimp only at hSw); go_simp; try (with_reducible rfl))
        (try simp only [Act.put, List.setIfInBounds_toArray, List.set_cons_zero, List.set_cons_succ])
        refine take_d (i := 7) (v := ?vq21_8) rfl (by rfl) (by kernel_rfl) (by kernel_rfl) (by kernel_rfl) (fun _ _ _ h => h) (Or.inl ⟨by rfl, ?hq21_8⟩) (by assumption) ?rq21_8
        case hq21_8 => (intro wS hSw; (try dsimp only at hSw); have hcq0 := cn hSw JA0; have hcq1 := cn hSw JA1; go_simp; try (with_reducible rfl))
        (try simp only [Act.put, List.setIfInBounds_toArray, List.set_cons_zero, List.set_cons_succ])
        refine take_d (i := 8) (v := ?vq21_9) rfl (by rfl) (by kernel_rfl) (by kernel_rfl) (by kernel_rfl) (fun _ _ _ h => h) (Or.inl ⟨by rfl, ?hq21_9⟩) (by assumption) ?rq21_9
        case hq21_9 => (intro wS hSw; (try dsimp only at hSw); go_simp; try (with_reducible rfl))
        (try simp only [Act.put, List.setIfInBounds_toArray, List.set_cons_zero, List.set_cons_succ])
        refine take_d (i := 9) (v := ?vq21_10) rfl (by rfl) (by kernel_rfl) (by kernel_rfl) (by kernel_rfl) (fun _ _ _ h => h) (Or.inl ⟨by rfl, ?hq21_10⟩) (by assumption) ?rq21_10
        case hq21_10 => (intro wS hSw; (try dsimp only at hSw); have hcq0 := cn hSw JA0; have hcq1 := cn hSw JA1; go_simp; try (with_reducible rfl))
        (try simp only [Act.put, List.setIfInBounds_toArray, List.set_cons_zero, List.set_cons_succ])
        refine take_d (i := 10) (v := ?vq21_11) rfl (by rfl) (by kernel_rfl) (by kernel_rfl) (by kernel_rfl) (fun _ _ _ h => h) (Or.inl ⟨by rfl, ?hq21_11⟩) (by assumption) ?rq21_11
        case hq21_11 => (intro wS hSw; (try dsimp only at hSw); go_simp; try (with_reducible rfl))
        (try simp only [Act.put, List.setIfInBounds_toArray, List.set_cons_zero, List.set_cons_succ])
        refine wpAnyH_ready (rs := [11]) (by kernel_rfl) (by simp) ?_
        refine AllReadyH.cons rfl (fun K hK => ?_) AllReadyH.nil
        go_simp
        go_at_call 46
        refine (HT.out _).mono ?_
        rintro e wq21_12 ⟨rfl, bkq21_12⟩
        have hBn := below_next hBk bkq21_12
        clear hBk bkq21_12
        have hBk := hBn
        clear hBn
        try go_simp
        refine hK.out _ _ ?_ (fun hHeld => ?_)
        · (try dsimp only); exact hBk
        clear hK K
        (try simp only [Act.put, List.setIfInBounds_toArray, List.set_cons_zero, List.set_cons_succ])
        refine take_d (i := 12) (v := ?vq21_13) rfl (by rfl) (by kernel_rfl) (by kernel_rfl) (by kernel_rfl) (fun _ _ _ h => h) (Or.inl ⟨by rfl, ?hq21_13⟩) (by assumption) ?rq21_13
        case hq21_13 => (intro wS hSw; (try dsimp only at hSw); go_simp; try (with_reducible rfl))
        (try simp only [Act.put, List.setIfInBounds_toArray, List.set_cons_zero, List.set_cons_succ])
        refine take_d (i := 13) (v := ?vq21_14) rfl (by rfl) (by kernel_rfl) (by kernel_rfl) (by kernel_rfl) (fun _ _ _ h => h) (Or.inl ⟨by rfl, ?hq21_14⟩) (by assumption) ?rq21_14
        case hq21_14 => (intro wS hSw; (try dsimp only at hSw); go_simp; try (with_reducible rfl))
        (try simp only [Act.put, List.setIfInBounds_toArray, List.set_cons_zero, List.set_cons_succ])
        refine take_d (i := 14) (v := ?vq21_15) rfl (by rfl) (by kernel_rfl) (by kernel_rfl) (by kernel_rfl) (fun _ _ _ h => h) (Or.inl ⟨by rfl, ?hq21_15⟩) (by assumption) ?rq21_15
        case hq21_15 => (intro wS hSw; (try dsimp only at hSw); have hcq0 := cn hSw JA0; have hcq1 := cn hSw JA1; go_simp; try (with_reducible rfl))
        (try simp only [Act.put, List.setIfInBounds_toArray, List.set_cons_zero, List.set_cons_succ])
        refine take_d (i := 17) (v := ?vq21_16) rfl (by rfl) (by kernel_rfl) (by kernel_rfl) (by kernel_rfl) (fun _ _ _ h => h) (Or.inl ⟨by rfl, ?hq21_16⟩) (by assumption) ?rq21_16
        case hq21_16 => (intro wS hSw; (try dsimp only at hSw); go_simp; try (with_reducible rfl))
        (try simp only [Act.put, List.setIfInBounds_toArray, List.set_cons_zero, List.set_cons_succ])
        refine take_d (i := 18) (v := ?vq21_17) rfl (by rfl) (by kernel_rfl) (by kernel_rfl) (by kernel_rfl) (fun _ _ _ h => h) (Or.inl ⟨by rfl, ?hq21_17⟩) (by assumption) ?rq21_17
        case hq21_17 => (intro wS hSw; (try dsimp only at hSw); have hcq0 := cn hSw JA0; have hcq1 := cn hSw JA1; go_simp; try (with_reducible rfl))
        (try simp only [Act.put, List.setIfInBounds_toArray, List.set_cons_zero, List.set_cons_succ])
        refine take_d (i := 19) (v := ?vq21_18) rfl (by rfl) (by kernel_rfl) (by kernel_rfl) (by kernel_rfl) (fun _ _ _ h => h) (Or.inl ⟨by rfl, ?hq21_18⟩) (by assumption) ?rq21_18
        case hq21_18 => (intro wS hSw; (try dsimp only at hSw); go_simp; try (with_reducible rfl))
        (try simp only [Act.put, List.setIfInBounds_toArray, List.set_cons_zero, List.set_cons_succ])
        refine wpAnyH_ready (rs := [15]) (by kernel_rfl) (by simp) ?_
        refine AllReadyH.cons rfl (fun K hK => ?_) AllReadyH.nil
        go_simp
        go_at_call 49
        refine (FR.out _).mono ?_
        rintro e wq21_19 ⟨rfl, bkq21_19⟩
        have hBn := below_next hBk bkq21_19
        clear hBk bkq21_19
        have hBk := hBn
        clear hBn
        try go_simp
        refine hK.out _ _ ?_ (fun hHeld => ?_)
        · (try dsimp only); exact hBk
        clear hK K
        (try simp only [Act.put, List.setIfInBounds_toArray, List.set_cons_zero, List.set_cons_succ])
        refine take_d (i := 16) (v := ?vq21_20) rfl (by rfl) (by kernel_rfl) (by kernel_rfl) (by kernel_rfl) (fun _ _ _ h => h) (Or.inl ⟨by rfl, ?hq21_20⟩) (by assumption) ?rq21_20
        case hq21_20 => (intro wS hSw; (try dsimp only at hSw); go_simp; try (with_reducible rfl))
        (try simp only [Act.put, List.setIfInBounds_toArray, List.set_cons_zero, List.set_cons_succ])
        refine take_d (i := 20) (v := ?vq21_21) rfl (by rfl) (by kernel_rfl) (by kernel_rfl) (by kernel_rfl) (fun _ _ _ h => h) (Or.inl ⟨by rfl, ?hq21_21⟩) (by assumption) ?rq21_21
        case hq21_21 => (intro wS hSw; (try dsimp only at hSw); go_simp; try (with_reducible rfl))
        (try simp only [Act.put, List.setIfInBounds_toArray, List.set_cons_zero, List.set_cons_succ])
        refine take_d (i := 21) (v := ?vq21_22) rfl (by rfl) (by kernel_rfl) (by kernel_rfl) (by kernel_rfl) (fun _ _ _ h => h) (Or.inl ⟨by rfl, ?hq21_22⟩) (by assumption) ?rq21_22
        case hq21_22 => (intro wS hSw; (try dsimp only at hSw); go_simp; try (with_reducible rfl))
        (try simp only [Act.put, List.setIfInBounds_toArray, List.set_cons_zero, List.set_cons_succ])
        refine take_d (i := 22) (v := ?vq21_23) rfl (by rfl) (by kernel_rfl) (by kernel_rfl) (by kernel_rfl) (fun _ _ _ h => h) (Or.inl ⟨by rfl, ?hq21_23⟩) (by assumption) ?rq21_23
        case hq21_23 => (intro wS hSw; (try dsimp only at hSw); go_simp; try (with_reducible rfl))
        (try simp only [Act.put, List.setIfInBounds_toArray, List.set_cons_zero, List.set_cons_succ])
        refine wpAnyH_done (by kernel_rfl) ?_ _
        clear JA0 JA1 JAl JB0 JB1 JBl JC0 JC1 JCl JJ0 JJ1 JJl JM0 JM1 JMl lB
        generalize wq21_19 = w17 at hBk ⊢
        replace JA := JA.below hBk
        replace JB := JB.below hBk
        replace JC := JC.below hBk
        replace JJ := JJ.below hBk
        replace JM := JM.below hBk
        replace B := below_next B hBk
        clear hBk
        go_wp2
        go_ret
        exact ⟨rfl, B⟩
      · skip
        have JA0 := JA.2.1
        have JA1 := JA.2.2
        have JAl := JA.1
        have JB0 := JB.2.1
        have JB1 := JB.2.2
        have JBl := JB.1
        have JC0 := JC.2.1
        have JC1 := JC.2.2
        have JCl := JC.1
        have JJ0 := JJ.2.1
        have JJ1 := JJ.2.2
        have JJl := JJ.1
        have JM0 := JM.2.1
        have JM1 := JM.2.2
        have JMl := JM.1
        have lB := B.size
        go_wp2_with fail
        refine (Icb.out _).mono ?_
        rintro e w17 ⟨rfl, z⟩
        clear JA0 JA1 JAl JB0 JB1 JBl JC0 JC1 JCl JJ0 JJ1 JJl JM0 JM1 JMl lB
        replace JA := JA.below z
        replace JB := JB.below z
        replace JC := JC.below z
        replace JJ := JJ.below z
        replace JM := JM.below z
        replace B := below_next B z
        clear z
        cases cb
        · skip
          have hce := hce.out
          have JA0 := JA.2.1
          have JA1 := JA.2.2
          have JAl := JA.1
          have JB0 := JB.2.1
          have JB1 := JB.2.2
          have JBl := JB.1
          have JC0 := JC.2.1
          have JC1 := JC.2.2
          have JCl := JC.1
          have JJ0 := JJ.2.1
          have JJ1 := JJ.2.2
          have JJl := JJ.1
          have JM0 := JM.2.1
          have JM1 := JM.2.2
          have JMl := JM.1
          have lB := B.size
          go_wp2_with fail
          refine wp_region_held_drew (S := (fun w' : World => Below w17.heap.size w17 w')) (by kernel_rfl) ?_ (fun hHeld => ?_)
          · (try dsimp only); first | (with_reducible exact below_dr _) | (with_reducible exact Below.refl _ _) | exact below_dr _
          have hBk := below_dr w17
          refine take_d (i := 0) (v := ?vq22_1) rfl (by rfl) (by kernel_rfl) (by kernel_rfl) (by kernel_rfl) (fun _ _ _ h => h) (Or.inl ⟨by rfl, ?hq22_1⟩) (by assumption) ?rq22_1
          case hq22_1 => (intro wS hSw; (try dsimp only at hSw); have hcq0 := cn hSw JA0; have hcq1 := cn hSw JA1; go_simp; try (with_reducible rfl))
          (try simp only [Act.put, List.setIfInBounds_toArray, List.set_cons_zero, List.set_cons_succ])
          refine take_d (i := 1) (v := ?vq22_2) rfl (by rfl) (by kernel_rfl) (by kernel_rfl) (by kernel_rfl) (fun _ _ _ h => h) (Or.inl ⟨by rfl, ?hq22_2⟩) (by assumption) ?rq22_2
          case hq22_2 => (intro wS hSw; (try dsimp only at hSw); go_simp; try (with_reducible rfl))
          (try simp only [Act.put, List.setIfInBounds_toArray, List.set_cons_zero, List.set_cons_succ])
          refine take_d (i := 2) (v := ?vq22_3) rfl (by rfl) (by kernel_rfl) (by kernel_rfl) (by kernel_rfl) (fun _ _ _ h => h) (Or.inl ⟨by rfl, ?hq22_3⟩) (by assumption) ?rq22_3
          case hq22_3 => (intro wS hSw; (try dsimp only at hSw); have hcq0 := cn hSw JA0; have hcq1 := cn hSw JA1; go_simp; try (with_reducible rfl))
          (try simp only [Act.put, List.setIfInBounds_toArray, List.set_cons_zero, List.set_cons_succ])
          refine wpAnyH_ready (rs := [3]) (by kernel_rfl) (by simp) ?_
          refine AllReadyH.cons rfl (fun K hK => ?_) AllReadyH.nil
          go_simp
          go_at_call 46
          refine (HL.out _).mono ?_
          rintro e wq22_4 ⟨rfl, bkq22_4⟩
          have hBn := below_next hBk bkq22_4
          clear hBk bkq22_4
          have hBk := hBn
          clear hBn
          try go_simp
          refine hK.out _ _ ?_ (fun hHeld => ?_)
          · (try dsimp only); exact hBk
          clear hK K
          (try simp only [Act.put, List.setIfInBounds_toArray, List.set_cons_zero, List.set_cons_succ])
          refine take_d (i := 4) (v := ?vq22_5) rfl (by rfl) (by kernel_rfl) (by kernel_rfl) (by kernel_rfl) (fun _ _ _ h => h) (Or.inl ⟨by rfl, ?hq22_5⟩) (by assumption) ?rq22_5
          case hq22_5 => (intro wS hSw; (try dsimp only at hSw); go_simp; try (with_reducible rfl))
          (try simp only [Act.put, List.setIfInBounds_toArray, List.set_cons_zero, List.set_cons_succ])
          refine take_d (i := 5) (v := ?vq22_6) rfl (by rfl) (by kernel_rfl) (by kernel_rfl) (by kernel_rfl) (fun _ _ _ h => h) (Or.inl ⟨by rfl, ?hq22_6⟩) (by assumption) ?rq22_6
          case hq22_6 => (intro wS hSw; (try dsimp only at hSw); have hcq0 := cn hSw JA0; have hcq1 := cn hSw JA1; go_simp; try (with_reducible rfl))
          (try simp only [Act.put, List.setIfInBounds_toArray, List.set_cons_zero, List.set_cons_succ])
          refine take_d (i := 6) (v := ?vq22_7) rfl (by rfl) (by kernel_rfl) (by kernel_rfl) (by kernel_rfl) (fun _ _ _ h => h) (Or.inl ⟨by rfl, ?hq22_7⟩) (by assumption) ?rq22_7
          case hq22_7 => (intro wS hSw; (try dsimp only at hSw); go_simp; try (with_reducible rfl))
          (try simp only [Act.put, List.setIfInBounds_toArray, List.set_cons_zero, List.set_cons_succ])
          refine take_d (i := 7) (v := ?vq22_8) rfl (by rfl) (by kernel_rfl) (by kernel_rfl) (by kernel_rfl) (fun _ _ _ h => h) (Or.inl ⟨by rfl, ?hq22_8⟩) (by assumption) ?rq22_8
          case hq22_8 => (intro wS hSw; (try dsimp only at hSw); have hcq0 := cn hSw JA0; have hcq1 := cn hSw JA1; go_simp; try (with_reducible rfl))
          (try simp only [Act.put, List.setIfInBounds_toArray, List.set_cons_zero, List.set_cons_succ])
          refine take_d (i := 8) (v := ?vq22_9) rfl (by rfl) (by kernel_rfl) (by kernel_rfl) (by kernel_rfl) (fun _ _ _ h => h) (Or.inl ⟨by rfl, ?hq22_9⟩) (by assumption) ?rq22_9
          case hq22_9 => (intro wS hSw; (try dsimp only at hSw); go_simp; try (with_reducible rfl))
          (try simp only [Act.put, List.setIfInBounds_toArray, List.set_cons_zero, List.set_cons_succ])
          refine take_d (i := 9) (v := ?vq22_10) rfl (by rfl) (by kernel_rfl) (by kernel_rfl) (by kernel_rfl) (fun _ _ _ h => h) (Or.inl ⟨by rfl, ?hq22_10⟩) (by assumption) ?rq22_10
          case hq22_10 => (intro wS hSw; (try dsimp only at hSw); have hcq0 := cn hSw JA0; have hcq1 := cn hSw JA1; go_simp; try (with_reducible rfl))
          (try simp only [Act.put, List.setIfInBounds_toArray, List.set_cons_zero, List.set_cons_succ])
          refine take_d (i := 10) (v := ?vq22_11) rfl (by rfl) (by kernel_rfl) (by kernel_rfl) (by kernel_rfl) (fun _ _ _ h => h) (Or.inl ⟨by rfl, ?hq22_11⟩) (by assumption) ?rq22_11
          case hq22_11 => (intro wS hSw; (try dsimp only at hSw); go_simp; try (with_reducible rfl))
          (try simp only [Act.put, List.setIfInBounds_toArray, List.set_cons_zero, List.set_cons_succ])
          refine wpAnyH_ready (rs := [11]) (by kernel_rfl) (by simp) ?_
          refine AllReadyH.cons rfl (fun K hK => ?_) AllReadyH.nil
          go_simp
          go_at_call 46
          refine (HT.out _).mono ?_
          rintro e wq22_12 ⟨rfl, bkq22_12⟩
          have hBn := below_next hBk bkq22_12
          clear hBk bkq22_12
          have hBk := hBn
          clear hBn
          try go_simp
          refine hK.out _ _ ?_ (fun hHeld => ?_)
          · (try dsimp only); exact hBk
          clear hK K
          (try simp only [Act.put, List.setIfInBounds_toArray, List.set_cons_zero, List.set_cons_succ])
          refine take_d (i := 12) (v := ?vq22_13) rfl (by rfl) (by kernel_rfl) (by kernel_rfl) (by kernel_rfl) (fun _ _ _ h => h) (Or.inl ⟨by rfl, ?hq22_13⟩) (by assumption) ?rq22_13
          case hq22_13 => (intro wS hSw; (try dsimp only at hSw); go_simp; try (with_reducible rfl))
          (try simp only [Act.put, List.setIfInBounds_toArray, List.set_cons_zero, List.set_cons_succ])
          refine take_d (i := 13) (v := ?vq22_14) rfl (by rfl) (by kernel_rfl) (by kernel_rfl) (by kernel_rfl) (fun _ _ _ h => h) (Or.inl ⟨by rfl, ?hq22_14⟩) (by assumption) ?rq22_14
          case hq22_14 => (intro wS hSw; (try dsimp only at hSw); go_simp; try (with_reducible rfl))
          (try simp only [Act.put, List.setIfInBounds_toArray, List.set_cons_zero, List.set_cons_succ])
          refine take_d (i := 14) (v := ?vq22_15) rfl (by rfl) (by kernel_rfl) (by kernel_rfl) (by kernel_rfl) (fun _ _ _ h => h) (Or.inl ⟨by rfl, ?hq22_15⟩) (by assumption) ?rq22_15
          case hq22_15 => (intro wS hSw; (try dsimp only at hSw); have hcq0 := cn hSw JA0; have hcq1 := cn hSw JA1; go_simp; try (with_reducible rfl))
          (try simp only [Act.put, List.setIfInBounds_toArray, List.set_cons_zero, List.set_cons_succ])
          refine take_d (i := 17) (v := ?vq22_16) rfl (by rfl) (by kernel_rfl) (by kernel_rfl) (by kernel_rfl) (fun _ _ _ h => h) (Or.inl ⟨by rfl, ?hq22_16⟩) (by assumption) ?rq22_16
          case hq22_16 => (intro wS hSw; (try dsimp only at hSw); go_simp; try (with_reducible rfl))
          (try simp only [Act.put, List.setIfInBounds_toArray, List.set_cons_zero, List.set_cons_succ])
          refine take_d (i := 18) (v := ?vq22_17) rfl (by rfl) (by kernel_rfl) (by kernel_rfl) (by kernel_rfl) (fun _ _ _ h => h) (Or.inl ⟨by rfl, ?hq22_17⟩) (by assumption) ?rq22_17
          case hq22_17 => (intro wS hSw; (try dsimp only at hSw); have hcq0 := cn hSw JA0; have hcq1 := cn hSw JA1; go_simp; try (with_reducible rfl))
          (try simp only [Act.put, List.setIfInBounds_toArray, List.set_cons_zero, List.set_cons_succ])
          refine take_d (i := 19) (v := ?vq22_18) rfl (by rfl) (by kernel_rfl) (by kernel_rfl) (by kernel_rfl) (fun _ _ _ h => h) (Or.inl ⟨by rfl, ?hq22_18⟩) (by assumption) ?rq22_18
          case hq22_18 => (intro wS hSw; (try dsimp only at hSw); go_simp; try (with_reducible rfl))
          (try simp only [Act.put, List.setIfInBounds_toArray, List.set_cons_zero, List.set_cons_succ])
          refine wpAnyH_ready (rs := [15]) (by kernel_rfl) (by simp) ?_
          refine AllReadyH.cons rfl (fun K hK => ?_) AllReadyH.nil
          go_simp
          go_at_call 49
          refine (FR.out _).mono ?_
          rintro e wq22_19 ⟨rfl, bkq22_19⟩
          have hBn := below_next hBk bkq22_19
          clear hBk bkq22_19
          have hBk := hBn
          clear hBn
          try go_simp
          refine hK.out _ _ ?_ (fun hHeld => ?_)
          · (try dsimp only); exact hBk
          clear hK K
          (try simp only [Act.put, List.setIfInBounds_toArray, List.set_cons_zero, List.set_cons_succ])
          refine take_d (i := 16) (v := ?vq22_20) rfl (by rfl) (by kernel_rfl) (by kernel_rfl) (by kernel_rfl) (fun _ _ _ h => h) (Or.inl ⟨by rfl, ?hq22_20⟩) (by assumption) ?rq22_20
          case hq22_20 => (intro wS hSw; (try dsimp only at hSw); go_simp; try (with_reducible rfl))
          (try simp only [Act.put, List.setIfInBounds_toArray, List.set_cons_zero, List.set_cons_succ])
          refine take_d (i := 20) (v := ?vq22_21) rfl (by rfl) (by kernel_rfl) (by kernel_rfl) (by kernel_rfl) (fun _ _ _ h => h) (Or.inl ⟨by rfl, ?hq22_21⟩) (by assumption) ?rq22_21
          case hq22_21 => (intro wS hSw; (try dsimp only at hSw); go_simp; try (with_reducible rfl))
          (try simp only [Act.put, List.setIfInBounds_toArray, List.set_cons_zero, List.set_cons_succ])
          refine take_d (i := 21) (v := ?vq22_22) rfl (by rfl) (by kernel_rfl) (by kernel_rfl) (by kernel_rfl) (fun _ _ _ h => h) (Or.inl ⟨by rfl, ?hq22_22⟩) (by assumption) ?rq22_22
          case hq22_22 => (intro wS hSw; (try dsimp only at hSw); go_simp; try (with_reducible rfl))
          (try simp only [Act.put, List.setIfInBounds_toArray, List.set_cons_zero, List.set_cons_succ])
          refine take_d (i := 22) (v := ?vq22_23) rfl (by rfl) (by kernel_rfl) (by kernel_rfl) (by kernel_rfl) (fun _ _ _ h => h) (Or.inl ⟨by rfl, ?hq22_23⟩) (by assumption) ?rq22_23
          case hq22_23 => (intro wS hSw; (try dsimp only at hSw); go_simp; try (with_reducible rfl))
          (try simp only [Act.put, List.setIfInBounds_toArray, List.set_cons_zero, List.set_cons_succ])
          refine wpAnyH_done (by kernel_rfl) ?_ _
          clear JA0 JA1 JAl JB0 JB1 JBl JC0 JC1 JCl JJ0 JJ1 JJl JM0 JM1 JMl lB
          generalize wq22_19 = w18 at hBk ⊢
          replace JA := JA.below hBk
          replace JB := JB.below hBk
          replace JC := JC.below hBk
          replace JJ := JJ.below hBk
          replace JM := JM.below hBk
          replace B := below_next B hBk
          clear hBk
          go_wp2
          go_ret
          exact ⟨rfl, B⟩
        · skip
          obtain rfl : cm = true := (cM.out (by trivial) (by trivial)).2
          have JA0 := JA.2.1
          have JA1 := JA.2.2
          have JAl := JA.1
          have JB0 := JB.2.1
          have JB1 := JB.2.2
          have JBl := JB.1
          have JC0 := JC.2.1
          have JC1 := JC.2.2
          have JCl := JC.1
          have JJ0 := JJ.2.1
          have JJ1 := JJ.2.2
          have JJl := JJ.1
          have JM0 := JM.2.1
          have JM1 := JM.2.2
          have JMl := JM.1
          have lB := B.size
          go_wp2_with fail
          refine (Icm.out _).mono ?_
          rintro e w18 ⟨rfl, z⟩
          clear JA0 JA1 JAl JB0 JB1 JBl JC0 JC1 JCl JJ0 JJ1 JJl JM0 JM1 JMl lB
          replace JA := JA.below z
          replace JB := JB.below z
          replace JC := JC.below z
          replace JJ := JJ.below z
          replace JM := JM.below z
          replace B := below_next B z
          clear z
          have hce := hce.out
          have JA0 := JA.2.1
          have JA1 := JA.2.2
          have JAl := JA.1
          have JB0 := JB.2.1
          have JB1 := JB.2.2
          have JBl := JB.1
          have JC0 := JC.2.1
          have JC1 := JC.2.2
          have JCl := JC.1
          have JJ0 := JJ.2.1
          have JJ1 := JJ.2.2
          have JJl := JJ.1
          have JM0 := JM.2.1
          have JM1 := JM.2.2
          have JMl := JM.1
          have lB := B.size
          go_wp2_with fail
          refine wp_region_held_drew (S := (fun w' : World => Below w18.heap.size w18 w')) (by kernel_rfl) ?_ (fun hHeld => ?_)
          · (try dsimp only); first | (with_reducible exact below_dr _) | (with_reducible exact Below.refl _ _) | exact below_dr _
          have hBk := below_dr w18
          refine take_d (i := 0) (v := ?vq23_1) rfl (by rfl) (by kernel_rfl) (by kernel_rfl) (by kernel_rfl) (fun _ _ _ h => h) (Or.inl ⟨by rfl, ?hq23_1⟩) (by assumption) ?rq23_1
          case hq23_1 => (intro wS hSw; (try dsimp only at hSw); have hcq0 := cn hSw JA0; have hcq1 := cn hSw JA1; go_simp; try (with_reducible rfl))
          (try simp only [Act.put, List.setIfInBounds_toArray, List.set_cons_zero, List.set_cons_succ])
          refine take_d (i := 1) (v := ?vq23_2) rfl (by rfl) (by kernel_rfl) (by kernel_rfl) (by kernel_rfl) (fun _ _ _ h => h) (Or.inl ⟨by rfl, ?hq23_2⟩) (by assumption) ?rq23_2
          case hq23_2 => (intro wS hSw; (try dsimp only at hSw); go_simp; try (with_reducible rfl))
          (try simp only [Act.put, List.setIfInBounds_toArray, List.set_cons_zero, List.set_cons_succ])
          refine take_d (i := 2) (v := ?vq23_3) rfl (by rfl) (by kernel_rfl) (by kernel_rfl) (by kernel_rfl) (fun _ _ _ h => h) (Or.inl ⟨by rfl, ?hq23_3⟩) (by assumption) ?rq23_3
          case hq23_3 => (intro wS hSw; (try dsimp only at hSw); have hcq0 := cn hSw JA0; have hcq1 := cn hSw JA1; go_simp; try (with_reducible rfl))
          (try simp only [Act.put, List.setIfInBounds_toArray, List.set_cons_zero, List.set_cons_succ])
          refine wpAnyH_ready (rs := [3]) (by kernel_rfl) (by simp) ?_
          refine AllReadyH.cons rfl (fun K hK => ?_) AllReadyH.nil
          go_simp
          go_at_call 46
          refine (HL.out _).mono ?_
          rintro e wq23_4 ⟨rfl, bkq23_4⟩
          have hBn := below_next hBk bkq23_4
          clear hBk bkq23_4
          have hBk := hBn
          clear hBn
          try go_simp
          refine hK.out _ _ ?_ (fun hHeld => ?_)
          · (try dsimp only); exact hBk
          clear hK K
          (try simp only [Act.put, List.setIfInBounds_toArray, List.set_cons_zero, List.set_cons_succ])
          refine take_d (i := 4) (v := ?vq23_5) rfl (by rfl) (by kernel_rfl) (by kernel_rfl) (by kernel_rfl) (fun _ _ _ h => h) (Or.inl ⟨by rfl, ?hq23_5⟩) (by assumption) ?rq23_5
          case hq23_5 => (intro wS hSw; (try dsimp only at hSw); go_simp; try (with_reducible rfl))
          (try simp only [Act.put, List.setIfInBounds_toArray, List.set_cons_zero, List.set_cons_succ])
          refine take_d (i := 5) (v := ?vq23_6) rfl (by rfl) (by kernel_rfl) (by kernel_rfl) (by kernel_rfl) (fun _ _ _ h => h) (Or.inl ⟨by rfl, ?hq23_6⟩) (by assumption) ?rq23_6
          case hq23_6 => (intro wS hSw; (try dsimp only at hSw); have hcq0 := cn hSw JA0; have hcq1 := cn hSw JA1; go_simp; try (with_reducible rfl))
          (try simp only [Act.put, List.setIfInBounds_toArray, List.set_cons_zero, List.set_cons_succ])
          refine take_d (i := 6) (v := ?vq23_7) rfl (by rfl) (by kernel_rfl) (by kernel_rfl) (by kernel_rfl) (fun _ _ _ h => h) (Or.inl ⟨by rfl, ?hq23_7⟩) (by assumption) ?rq23_7
          case hq23_7 => (intro wS hSw; (try dsimp only at hSw); go_simp; try (with_reducible rfl))
          (try simp only [Act.put, List.setIfInBounds_toArray, List.set_cons_zero, List.set_cons_succ])
          refine take_d (i := 7) (v := ?vq23_8) rfl (by rfl) (by kernel_rfl) (by kernel_rfl) (by kernel_rfl) (fun _ _ _ h => h) (Or.inl ⟨by rfl, ?hq23_8⟩) (by assumption) ?rq23_8
          case hq23_8 => (intro wS hSw; (try dsimp only at hSw); have hcq0 := cn hSw JA0; have hcq1 := cn hSw JA1; go_simp; try (with_reducible rfl))
          (try simp only [Act.put, List.setIfInBounds_toArray, List.set_cons_zero, List.set_cons_succ])
          refine take_d (i := 8) (v := ?vq23_9) rfl (by rfl) (by kernel_rfl) (by kernel_rfl) (by kernel_rfl) (fun _ _ _ h => h) (Or.inl ⟨by rfl, ?hq23_9⟩) (by assumption) ?rq23_9
          case hq23_9 => (intro wS hSw; (try dsimp only at hSw); go_simp; try (with_reducible rfl))
          (try simp only [Act.put, List.setIfInBounds_toArray, List.set_cons_zero, List.set_cons_succ])
          refine take_d (i := 9) (v := ?vq23_10) rfl (by rfl) (by kernel_rfl) (by kernel_rfl) (by kernel_rfl) (fun _ _ _ h => h) (Or.inl ⟨by rfl, ?hq23_10⟩) (by assumption) ?rq23_10
          case hq23_10 => (intro wS hSw; (try dsimp only at hSw); have hcq0 := cn hSw JA0; have hcq1 := cn hSw JA1; go_simp; try (with_reducible rfl))
          (try simp only [Act.put, List.setIfInBounds_toArray, List.set_cons_zero, List.set_cons_succ])
          refine take_d (i := 10) (v := ?vq23_11) rfl (by rfl) (by kernel_rfl) (by kernel_rfl) (by kernel_rfl) (fun _ _ _ h => h) (Or.inl ⟨by rfl, ?hq23_11⟩) (by assumption) ?rq23_11
          case hq23_11 => (intro wS hSw; (try dsimp only at hSw); go_simp; try (with_reducible rfl))
          (try simp only [Act.put, List.setIfInBounds_toArray, List.set_cons_zero, List.set_cons_succ])
          refine wpAnyH_ready (rs := [11]) (by kernel_rfl) (by simp) ?_
          refine AllReadyH.cons rfl (fun K hK => ?_) AllReadyH.nil
          go_simp
          go_at_call 46
          refine (HT.out _).mono ?_
          rintro e wq23_12 ⟨rfl, bkq23_12⟩
          have hBn := below_next hBk bkq23_12
          clear hBk bkq23_12
          have hBk := hBn
          clear hBn
          try go_simp
          refine hK.out _ _ ?_ (fun hHeld => ?_)
          · (try dsimp only); exact hBk
          clear hK K
          (try simp only [Act.put, List.setIfInBounds_toArray, List.set_cons_zero, List.set_cons_succ])
          refine take_d (i := 12) (v := ?vq23_13) rfl (by rfl) (by kernel_rfl) (by kernel_rfl) (by kernel_rfl) (fun _ _ _ h => h) (Or.inl ⟨by rfl, ?hq23_13⟩) (by assumption) ?rq23_13
          case hq23_13 => (intro wS hSw; (try dsimp only at hSw); go_simp; try (with_reducible rfl))
          (try simp only [Act.put, List.setIfInBounds_toArray, List.set_cons_zero, List.set_cons_succ])
          refine take_d (i := 13) (v := ?vq23_14) rfl (by rfl) (by kernel_rfl) (by kernel_rfl) (by kernel_rfl) (fun _ _ _ h => h) (Or.inl ⟨by rfl, ?hq23_14⟩) (by assumption) ?rq23_14
          case hq23_14 => (intro wS hSw; (try dsimp only at hSw); go_simp; try (with_reducible rfl))
          (try simp only [Act.put, List.setIfInBounds_toArray, List.set_cons_zero, List.set_cons_succ])
          refine take_d (i := 14) (v := ?vq23_15) rfl (by rfl) (by kernel_rfl) (by kernel_rfl) (by kernel_rfl) (fun _ _ _ h => h) (Or.inl ⟨by rfl, ?hq23_15⟩) (by assumption) ?rq23_15
          case hq23_15 => (intro wS hSw; (try dsimp only at hSw); have hcq0 := cn hSw JA0; have hcq1 := cn hSw JA1; go_simp; try (with_reducible rfl))
          (try simp only [Act.put, List.setIfInBounds_toArray, List.set_cons_zero, List.set_cons_succ])
          refine take_d (i := 17) (v := ?vq23_16) rfl (by rfl) (by kernel_rfl) (by kernel_rfl) (by kernel_rfl) (fun _ _ _ h => h) (Or.inl ⟨by rfl, ?hq23_16⟩) (by assumption) ?rq23_16
          case hq23_16 => (intro wS hSw; (try dsimp only at hSw); go_simp; try (with_reducible rfl))
          (try simp only [Act.put, List.setIfInBounds_toArray, List.set_cons_zero, List.set_cons_succ])
          refine take_d (i := 18) (v := ?vq23_17) rfl (by rfl) (by kernel_rfl) (by kernel_rfl) (by kernel_rfl) (fun _ _ _ h => h) (Or.inl ⟨by rfl, ?hq23_17⟩) (by assumption) ?rq23_17
          case hq23_17 => (intro wS hSw; (try dsimp only at hSw); have hcq0 := cn hSw JA0; have hcq1 := cn hSw JA1; go_simp; try (with_reducible rfl))
          (try simp only [Act.put, List.setIfInBounds_toArray, List.set_cons_zero, List.set_cons_succ])
          refine take_d (i := 19) (v := ?vq23_18) rfl (by rfl) (by kernel_rfl) (by kernel_rfl) (by kernel_rfl) (fun _ _ _ h => h) (Or.inl ⟨by rfl, ?hq23_18⟩) (by assumption) ?rq23_18
          case hq23_18 => (intro wS hSw; (try dsimp only at hSw); go_simp; try (with_reducible rfl))
          (try simp only [Act.put, List.setIfInBounds_toArray, List.set_cons_zero, List.set_cons_succ])
          refine wpAnyH_ready (rs := [15]) (by kernel_rfl) (by simp) ?_
          refine AllReadyH.cons rfl (fun K hK => ?_) AllReadyH.nil
          go_simp
          go_at_call 49
          refine (FR.out _).mono ?_
          rintro e wq23_19 ⟨rfl, bkq23_19⟩
          have hBn := below_next hBk bkq23_19
          clear hBk bkq23_19
          have hBk := hBn
          clear hBn
          try go_simp
          refine hK.out _ _ ?_ (fun hHeld => ?_)
          · (try dsimp only); exact hBk
          clear hK K
          (try simp only [Act.put, List.setIfInBounds_toArray, List.set_cons_zero, List.set_cons_succ])
          refine take_d (i := 16) (v := ?vq23_20) rfl (by rfl) (by kernel_rfl) (by kernel_rfl) (by kernel_rfl) (fun _ _ _ h => h) (Or.inl ⟨by rfl, ?hq23_20⟩) (by assumption) ?rq23_20
          case hq23_20 => (intro wS hSw; (try dsimp only at hSw); go_simp; try (with_reducible rfl))
          (try simp only [Act.put, List.setIfInBounds_toArray, List.set_cons_zero, List.set_cons_succ])
          refine take_d (i := 20) (v := ?vq23_21) rfl (by rfl) (by kernel_rfl) (by kernel_rfl) (by kernel_rfl) (fun _ _ _ h => h) (Or.inl ⟨by rfl, ?hq23_21⟩) (by assumption) ?rq23_21
          case hq23_21 => (intro wS hSw; (try dsimp only at hSw); go_simp; try (with_reducible rfl))
          (try simp only [Act.put, List.setIfInBounds_toArray, List.set_cons_zero, List.set_cons_succ])
          refine take_d (i := 21) (v := ?vq23_22) rfl (by rfl) (by kernel_rfl) (by kernel_rfl) (by kernel_rfl) (fun _ _ _ h => h) (Or.inl ⟨by rfl, ?hq23_22⟩) (by assumption) ?rq23_22
          case hq23_22 => (intro wS hSw; (try dsimp only at hSw); go_simp; try (with_reducible rfl))
          (try simp only [Act.put, List.setIfInBounds_toArray, List.set_cons_zero, List.set_cons_succ])
          refine take_d (i := 22) (v := ?vq23_23) rfl (by rfl) (by kernel_rfl) (by kernel_rfl) (by kernel_rfl) (fun _ _ _ h => h) (Or.inl ⟨by rfl, ?hq23_23⟩) (by assumption) ?rq23_23
          case hq23_23 => (intro wS hSw; (try dsimp only at hSw); go_simp; try (with_reducible rfl))
          (try simp only [Act.put, List.setIfInBounds_toArray, List.set_cons_zero, List.set_cons_succ])
          refine wpAnyH_done (by kernel_rfl) ?_ _
          clear JA0 JA1 JAl JB0 JB1 JBl JC0 JC1 JCl JJ0 JJ1 JJl JM0 JM1 JMl lB
          generalize wq23_19 = w19 at hBk ⊢
          replace JA := JA.below hBk
          replace JB := JB.below hBk
          replace JC := JC.below hBk
          replace JJ := JJ.below hBk
          replace JM := JM.below hBk
          replace B := below_next B hBk
          clear hBk
          go_wp2
          go_ret
          exact ⟨rfl, B⟩
    · skip
      clear mA mB
      have hNo : ca = true → cb = false := fun h => by
        cases hh : cb
        · rfl
        · exact absurd (cM.out h hh).1 (by decide)
      replace hNo := hid hNo
      clear cM
      have JA0 := JA.2.1
      have JA1 := JA.2.2
      have JAl := JA.1
      have JB0 := JB.2.1
      have JB1 := JB.2.2
      have JBl := JB.1
      have JC0 := JC.2.1
      have JC1 := JC.2.2
      have JCl := JC.1
      have JJ0 := JJ.2.1
      have JJ1 := JJ.2.2
      have JJl := JJ.1
      have lB := B.size
      go_wp2_with fail
      clear JA0 JA1 JAl JB0 JB1 JBl JC0 JC1 JCl JJ0 JJ1 JJl lB
      have JM : TC (w12.alloc (.cells #[.int .u64 (ub t0.1), .int .u64 (ub t0.2)] 24)) w12.heap.size t0 := TC.new rfl
      replace JA := JA.alloc (.cells #[.int .u64 (ub t0.1), .int .u64 (ub t0.2)] 24)
      replace JB := JB.alloc (.cells #[.int .u64 (ub t0.1), .int .u64 (ub t0.2)] 24)
      replace JC := JC.alloc (.cells #[.int .u64 (ub t0.1), .int .u64 (ub t0.2)] 24)
      replace JJ := JJ.alloc (.cells #[.int .u64 (ub t0.1), .int .u64 (ub t0.2)] 24)
      replace B := Below.alloc B B.size (.cells #[.int .u64 (ub t0.1), .int .u64 (ub t0.2)] 24)
      generalize w12.alloc (.cells #[.int .u64 (ub t0.1), .int .u64 (ub t0.2)] 24) = w13 at *
      generalize w12.heap.size = g2 at *
      have JA0 := JA.2.1
      have JA1 := JA.2.2
      have JAl := JA.1
      have JB0 := JB.2.1
      have JB1 := JB.2.2
      have JBl := JB.1
      have JC0 := JC.2.1
      have JC1 := JC.2.2
      have JCl := JC.1
      have JJ0 := JJ.2.1
      have JJ1 := JJ.2.2
      have JJl := JJ.1
      have JM0 := JM.2.1
      have JM1 := JM.2.2
      have JMl := JM.1
      have lB := B.size
      go_wp2_with fail
      refine (Ica.out _).mono ?_
      rintro e w14 ⟨rfl, z⟩
      clear JA0 JA1 JAl JB0 JB1 JBl JC0 JC1 JCl JJ0 JJ1 JJl JM0 JM1 JMl lB
      replace JA := JA.below z
      replace JB := JB.below z
      replace JC := JC.below z
      replace JJ := JJ.below z
      replace JM := JM.below z
      replace B := below_next B z
      clear z
      cases ca
      · skip
        have hce := hce.out
        have JA0 := JA.2.1
        have JA1 := JA.2.2
        have JAl := JA.1
        have JB0 := JB.2.1
        have JB1 := JB.2.2
        have JBl := JB.1
        have JC0 := JC.2.1
        have JC1 := JC.2.2
        have JCl := JC.1
        have JJ0 := JJ.2.1
        have JJ1 := JJ.2.2
        have JJl := JJ.1
        have JM0 := JM.2.1
        have JM1 := JM.2.2
        have JMl := JM.1
        have lB := B.size
        go_wp2_with fail
        refine wp_region_held_drew (S := (fun w' : World => Below w14.heap.size w14 w')) (by kernel_rfl) ?_ (fun hHeld => ?_)
        · (try dsimp only); first | (with_reducible exact below_dr _) | (with_reducible exact Below.refl _ _) | exact below_dr _
        have hBk := below_dr w14
        refine take_d (i := 0) (v := ?vq24_1) rfl (by rfl) (by kernel_rfl) (by kernel_rfl) (by kernel_rfl) (fun _ _ _ h => h) (Or.inl ⟨by rfl, ?hq24_1⟩) (by assumption) ?rq24_1
        case hq24_1 => (intro wS hSw; (try dsimp only at hSw); have hcq0 := cn hSw JA0; have hcq1 := cn hSw JA1; go_simp; try (with_reducible rfl))
        (try simp only [Act.put, List.setIfInBounds_toArray, List.set_cons_zero, List.set_cons_succ])
        refine take_d (i := 1) (v := ?vq24_2) rfl (by rfl) (by kernel_rfl) (by kernel_rfl) (by kernel_rfl) (fun _ _ _ h => h) (Or.inl ⟨by rfl, ?hq24_2⟩) (by assumption) ?rq24_2
        case hq24_2 => (intro wS hSw; (try dsimp only at hSw); go_simp; try (with_reducible rfl))
        (try simp only [Act.put, List.setIfInBounds_toArray, List.set_cons_zero, List.set_cons_succ])
        refine take_d (i := 2) (v := ?vq24_3) rfl (by rfl) (by kernel_rfl) (by kernel_rfl) (by kernel_rfl) (fun _ _ _ h => h) (Or.inl ⟨by rfl, ?hq24_3⟩) (by assumption) ?rq24_3
        case hq24_3 => (intro wS hSw; (try dsimp only at hSw); have hcq0 := cn hSw JA0; have hcq1 := cn hSw JA1; go_simp; try (with_reducible rfl))
        (try simp only [Act.put, List.setIfInBounds_toArray, List.set_cons_zero, List.set_cons_succ])
        refine wpAnyH_ready (rs := [3]) (by kernel_rfl) (by simp) ?_
        refine AllReadyH.cons rfl (fun K hK => ?_) AllReadyH.nil
        go_simp
        go_at_call 46
        refine (HL.out _).mono ?_
        rintro e wq24_4 ⟨rfl, bkq24_4⟩
        have hBn := below_next hBk bkq24_4
        clear hBk bkq24_4
        have hBk := hBn
        clear hBn
        try go_simp
        refine hK.out _ _ ?_ (fun hHeld => ?_)
        · (try dsimp only); exact hBk
        clear hK K
        (try simp only [Act.put, List.setIfInBounds_toArray, List.set_cons_zero, List.set_cons_succ])
        refine take_d (i := 4) (v := ?vq24_5) rfl (by rfl) (by kernel_rfl) (by kernel_rfl) (by kernel_rfl) (fun _ _ _ h => h) (Or.inl ⟨by rfl, ?hq24_5⟩) (by assumption) ?rq24_5
        case hq24_5 => (intro wS hSw; (try dsimp only at hSw); go_simp; try (with_reducible rfl))
        (try simp only [Act.put, List.setIfInBounds_toArray, List.set_cons_zero, List.set_cons_succ])
        refine take_d (i := 5) (v := ?vq24_6) rfl (by rfl) (by kernel_rfl) (by kernel_rfl) (by kernel_rfl) (fun _ _ _ h => h) (Or.inl ⟨by rfl, ?hq24_6⟩) (by assumption) ?rq24_6
        case hq24_6 => (intro wS hSw; (try dsimp only at hSw); have hcq0 := cn hSw JA0; have hcq1 := cn hSw JA1; go_simp; try (with_reducible rfl))
        (try simp only [Act.put, List.setIfInBounds_toArray, List.set_cons_zero, List.set_cons_succ])
        refine take_d (i := 6) (v := ?vq24_7) rfl (by rfl) (by kernel_rfl) (by kernel_rfl) (by kernel_rfl) (fun _ _ _ h => h) (Or.inl ⟨by rfl, ?hq24_7⟩) (by assumption) ?rq24_7
        case hq24_7 => (intro wS hSw; (try dsimp only at hSw); go_simp; try (with_reducible rfl))
        (try simp only [Act.put, List.setIfInBounds_toArray, List.set_cons_zero, List.set_cons_succ])
        refine take_d (i := 7) (v := ?vq24_8) rfl (by rfl) (by kernel_rfl) (by kernel_rfl) (by kernel_rfl) (fun _ _ _ h => h) (Or.inl ⟨by rfl, ?hq24_8⟩) (by assumption) ?rq24_8
        case hq24_8 => (intro wS hSw; (try dsimp only at hSw); have hcq0 := cn hSw JA0; have hcq1 := cn hSw JA1; go_simp; try (with_reducible rfl))
        (try simp only [Act.put, List.setIfInBounds_toArray, List.set_cons_zero, List.set_cons_succ])
        refine take_d (i := 8) (v := ?vq24_9) rfl (by rfl) (by kernel_rfl) (by kernel_rfl) (by kernel_rfl) (fun _ _ _ h => h) (Or.inl ⟨by rfl, ?hq24_9⟩) (by assumption) ?rq24_9
        case hq24_9 => (intro wS hSw; (try dsimp only at hSw); go_simp; try (with_reducible rfl))
        (try simp only [Act.put, List.setIfInBounds_toArray, List.set_cons_zero, List.set_cons_succ])
        refine take_d (i := 9) (v := ?vq24_10) rfl (by rfl) (by kernel_rfl) (by kernel_rfl) (by kernel_rfl) (fun _ _ _ h => h) (Or.inl ⟨by rfl, ?hq24_10⟩) (by assumption) ?rq24_10
        case hq24_10 => (intro wS hSw; (try dsimp only at hSw); have hcq0 := cn hSw JA0; have hcq1 := cn hSw JA1; go_simp; try (with_reducible rfl))
        (try simp only [Act.put, List.setIfInBounds_toArray, List.set_cons_zero, List.set_cons_succ])
        refine take_d (i := 10) (v := ?vq24_11) rfl (by rfl) (by kernel_rfl) (by kernel_rfl) (by kernel_rfl) (fun _ _ _ h => h) (Or.inl ⟨by rfl, ?hq24_11⟩) (by assumption) ?rq24_11
        case hq24_11 => (intro wS hSw; (try dsimp only at hSw); go_simp; try (with_reducible rfl))
        (try simp only [Act.put, List.setIfInBounds_toArray, List.set_cons_zero, List.set_cons_succ])
        refine wpAnyH_ready (rs := [11]) (by kernel_rfl) (by simp) ?_
        refine AllReadyH.cons rfl (fun K hK => ?_) AllReadyH.nil
        go_simp
        go_at_call 46
        refine (HT.out _).mono ?_
        rintro e wq24_12 ⟨rfl, bkq24_12⟩
        have hBn := below_next hBk bkq24_12
        clear hBk bkq24_12
        have hBk := hBn
        clear hBn
        try go_simp
        refine hK.out _ _ ?_ (fun hHeld => ?_)
        · (try dsimp only); exact hBk
        clear hK K
        (try simp only [Act.put, List.setIfInBounds_toArray, List.set_cons_zero, List.set_cons_succ])
        refine take_d (i := 12) (v := ?vq24_13) rfl (by rfl) (by kernel_rfl) (by kernel_rfl) (by kernel_rfl) (fun _ _ _ h => h) (Or.inl ⟨by rfl, ?hq24_13⟩) (by assumption) ?rq24_13
        case hq24_13 => (intro wS hSw; (try dsimp only at hSw); go_simp; try (with_reducible rfl))
        (try simp only [Act.put, List.setIfInBounds_toArray, List.set_cons_zero, List.set_cons_succ])
        refine take_d (i := 13) (v := ?vq24_14) rfl (by rfl) (by kernel_rfl) (by kernel_rfl) (by kernel_rfl) (fun _ _ _ h => h) (Or.inl ⟨by rfl, ?hq24_14⟩) (by assumption) ?rq24_14
        case hq24_14 => (intro wS hSw; (try dsimp only at hSw); go_simp; try (with_reducible rfl))
        (try simp only [Act.put, List.setIfInBounds_toArray, List.set_cons_zero, List.set_cons_succ])
        refine take_d (i := 14) (v := ?vq24_15) rfl (by rfl) (by kernel_rfl) (by kernel_rfl) (by kernel_rfl) (fun _ _ _ h => h) (Or.inl ⟨by rfl, ?hq24_15⟩) (by assumption) ?rq24_15
        case hq24_15 => (intro wS hSw; (try dsimp only at hSw); have hcq0 := cn hSw JA0; have hcq1 := cn hSw JA1; go_simp; try (with_reducible rfl))
        (try simp only [Act.put, List.setIfInBounds_toArray, List.set_cons_zero, List.set_cons_succ])
        refine take_d (i := 17) (v := ?vq24_16) rfl (by rfl) (by kernel_rfl) (by kernel_rfl) (by kernel_rfl) (fun _ _ _ h => h) (Or.inl ⟨by rfl, ?hq24_16⟩) (by assumption) ?rq24_16
        case hq24_16 => (intro wS hSw; (try dsimp only at hSw); go_simp; try (with_reducible rfl))
        (try simp only [Act.put, List.setIfInBounds_toArray, List.set_cons_zero, List.set_cons_succ])
        refine take_d (i := 18) (v := ?vq24_17) rfl (by rfl) (by kernel_rfl) (by kernel_rfl) (by kernel_rfl) (fun _ _ _ h => h) (Or.inl ⟨by rfl, ?hq24_17⟩) (by assumption) ?rq24_17
        case hq24_17 => (intro wS hSw; (try dsimp only at hSw); have hcq0 := cn hSw JA0; have hcq1 := cn hSw JA1; go_simp; try (with_reducible rfl))
        (try simp only [Act.put, List.setIfInBounds_toArray, List.set_cons_zero, List.set_cons_succ])
        refine take_d (i := 19) (v := ?vq24_18) rfl (by rfl) (by kernel_rfl) (by kernel_rfl) (by kernel_rfl) (fun _ _ _ h => h) (Or.inl ⟨by rfl, ?hq24_18⟩) (by assumption) ?rq24_18
        case hq24_18 => (intro wS hSw; (try dsimp only at hSw); go_simp; try (with_reducible rfl))
        (try simp only [Act.put, List.setIfInBounds_toArray, List.set_cons_zero, List.set_cons_succ])
        refine wpAnyH_ready (rs := [15]) (by kernel_rfl) (by simp) ?_
        refine AllReadyH.cons rfl (fun K hK => ?_) AllReadyH.nil
        go_simp
        go_at_call 49
        refine (FR.out _).mono ?_
        rintro e wq24_19 ⟨rfl, bkq24_19⟩
        have hBn := below_next hBk bkq24_19
        clear hBk bkq24_19
        have hBk := hBn
        clear hBn
        try go_simp
        refine hK.out _ _ ?_ (fun hHeld => ?_)
        · (try dsimp only); exact hBk
        clear hK K
        (try simp only [Act.put, List.setIfInBounds_toArray, List.set_cons_zero, List.set_cons_succ])
        refine take_d (i := 16) (v := ?vq24_20) rfl (by rfl) (by kernel_rfl) (by kernel_rfl) (by kernel_rfl) (fun _ _ _ h => h) (Or.inl ⟨by rfl, ?hq24_20⟩) (by assumption) ?rq24_20
        case hq24_20 => (intro wS hSw; (try dsimp only at hSw); go_simp; try (with_reducible rfl))
        (try simp only [Act.put, List.setIfInBounds_toArray, List.set_cons_zero, List.set_cons_succ])
        refine take_d (i := 20) (v := ?vq24_21) rfl (by rfl) (by kernel_rfl) (by kernel_rfl) (by kernel_rfl) (fun _ _ _ h => h) (Or.inl ⟨by rfl, ?hq24_21⟩) (by assumption) ?rq24_21
        case hq24_21 => (intro wS hSw; (try dsimp only at hSw); go_simp; try (with_reducible rfl))
        (try simp only [Act.put, List.setIfInBounds_toArray, List.set_cons_zero, List.set_cons_succ])
        refine take_d (i := 21) (v := ?vq24_22) rfl (by rfl) (by kernel_rfl) (by kernel_rfl) (by kernel_rfl) (fun _ _ _ h => h) (Or.inl ⟨by rfl, ?hq24_22⟩) (by assumption) ?rq24_22
        case hq24_22 => (intro wS hSw; (try dsimp only at hSw); go_simp; try (with_reducible rfl))
        (try simp only [Act.put, List.setIfInBounds_toArray, List.set_cons_zero, List.set_cons_succ])
        refine take_d (i := 22) (v := ?vq24_23) rfl (by rfl) (by kernel_rfl) (by kernel_rfl) (by kernel_rfl) (fun _ _ _ h => h) (Or.inl ⟨by rfl, ?hq24_23⟩) (by assumption) ?rq24_23
        case hq24_23 => (intro wS hSw; (try dsimp only at hSw); go_simp; try (with_reducible rfl))
        (try simp only [Act.put, List.setIfInBounds_toArray, List.set_cons_zero, List.set_cons_succ])
        refine wpAnyH_done (by kernel_rfl) ?_ _
        clear JA0 JA1 JAl JB0 JB1 JBl JC0 JC1 JCl JJ0 JJ1 JJl JM0 JM1 JMl lB
        generalize wq24_19 = w15 at hBk ⊢
        replace JA := JA.below hBk
        replace JB := JB.below hBk
        replace JC := JC.below hBk
        replace JJ := JJ.below hBk
        replace JM := JM.below hBk
        replace B := below_next B hBk
        clear hBk
        go_wp2
        go_ret
        exact ⟨rfl, B⟩
      · skip
        obtain rfl : cb = false := hNo.out (by trivial)
        have JA0 := JA.2.1
        have JA1 := JA.2.2
        have JAl := JA.1
        have JB0 := JB.2.1
        have JB1 := JB.2.2
        have JBl := JB.1
        have JC0 := JC.2.1
        have JC1 := JC.2.2
        have JCl := JC.1
        have JJ0 := JJ.2.1
        have JJ1 := JJ.2.2
        have JJl := JJ.1
        have JM0 := JM.2.1
        have JM1 := JM.2.2
        have JMl := JM.1
        have lB := B.size
        go_wp2_with fail
        refine (Icb.out _).mono ?_
        rintro e w15 ⟨rfl, z⟩
        clear JA0 JA1 JAl JB0 JB1 JBl JC0 JC1 JCl JJ0 JJ1 JJl JM0 JM1 JMl lB
        replace JA := JA.below z
        replace JB := JB.below z
        replace JC := JC.below z
        replace JJ := JJ.below z
        replace JM := JM.below z
        replace B := below_next B z
        clear z
        have hce := hce.out
        have JA0 := JA.2.1
        have JA1 := JA.2.2
        have JAl := JA.1
        have JB0 := JB.2.1
        have JB1 := JB.2.2
        have JBl := JB.1
        have JC0 := JC.2.1
        have JC1 := JC.2.2
        have JCl := JC.1
        have JJ0 := JJ.2.1
        have JJ1 := JJ.2.2
        have JJl := JJ.1
        have JM0 := JM.2.1
        have JM1 := JM.2.2
        have JMl := JM.1
        have lB := B.size
        go_wp2_with fail
        refine wp_region_held_drew (S := (fun w' : World => Below w15.heap.size w15 w')) (by kernel_rfl) ?_ (fun hHeld => ?_)
        · (try dsimp only); first | (with_reducible exact below_dr _) | (with_reducible exact Below.refl _ _) | exact below_dr _
        have hBk := below_dr w15
        refine take_d (i := 0) (v := ?vq25_1) rfl (by rfl) (by kernel_rfl) (by kernel_rfl) (by kernel_rfl) (fun _ _ _ h => h) (Or.inl ⟨by rfl, ?hq25_1⟩) (by assumption) ?rq25_1
        case hq25_1 => (intro wS hSw; (try dsimp only at hSw); have hcq0 := cn hSw JA0; have hcq1 := cn hSw JA1; go_simp; try (with_reducible rfl))
        (try simp only [Act.put, List.setIfInBounds_toArray, List.set_cons_zero, List.set_cons_succ])
        refine take_d (i := 1) (v := ?vq25_2) rfl (by rfl) (by kernel_rfl) (by kernel_rfl) (by kernel_rfl) (fun _ _ _ h => h) (Or.inl ⟨by rfl, ?hq25_2⟩) (by assumption) ?rq25_2
        case hq25_2 => (intro wS hSw; (try dsimp only at hSw); go_simp; try (with_reducible rfl))
        (try simp only [Act.put, List.setIfInBounds_toArray, List.set_cons_zero, List.set_cons_succ])
        refine take_d (i := 2) (v := ?vq25_3) rfl (by rfl) (by kernel_rfl) (by kernel_rfl) (by kernel_rfl) (fun _ _ _ h => h) (Or.inl ⟨by rfl, ?hq25_3⟩) (by assumption) ?rq25_3
        case hq25_3 => (intro wS hSw; (try dsimp only at hSw); have hcq0 := cn hSw JA0; have hcq1 := cn hSw JA1; go_simp; try (with_reducible rfl))
        (try simp only [Act.put, List.setIfInBounds_toArray, List.set_cons_zero, List.set_cons_succ])
        refine wpAnyH_ready (rs := [3]) (by kernel_rfl) (by simp) ?_
        refine AllReadyH.cons rfl (fun K hK => ?_) AllReadyH.nil
        go_simp
        go_at_call 46
        refine (HL.out _).mono ?_
        rintro e wq25_4 ⟨rfl, bkq25_4⟩
        have hBn := below_next hBk bkq25_4
        clear hBk bkq25_4
        have hBk := hBn
        clear hBn
        try go_simp
        refine hK.out _ _ ?_ (fun hHeld => ?_)
        · (try dsimp only); exact hBk
        clear hK K
        (try simp only [Act.put, List.setIfInBounds_toArray, List.set_cons_zero, List.set_cons_succ])
        refine take_d (i := 4) (v := ?vq25_5) rfl (by rfl) (by kernel_rfl) (by kernel_rfl) (by kernel_rfl) (fun _ _ _ h => h) (Or.inl ⟨by rfl, ?hq25_5⟩) (by assumption) ?rq25_5
        case hq25_5 => (intro wS hSw; (try dsimp only at hSw); go_simp; try (with_reducible rfl))
        (try simp only [Act.put, List.setIfInBounds_toArray, List.set_cons_zero, List.set_cons_succ])
        refine take_d (i := 5) (v := ?vq25_6) rfl (by rfl) (by kernel_rfl) (by kernel_rfl) (by kernel_rfl) (fun _ _ _ h => h) (Or.inl ⟨by rfl, ?hq25_6⟩) (by assumption) ?rq25_6
        case hq25_6 => (intro wS hSw; (try dsimp only at hSw); have hcq0 := cn hSw JA0; have hcq1 := cn hSw JA1; go_simp; try (with_reducible rfl))
        (try simp only [Act.put, List.setIfInBounds_toArray, List.set_cons_zero, List.set_cons_succ])
        refine take_d (i := 6) (v := ?vq25_7) rfl (by rfl) (by kernel_rfl) (by kernel_rfl) (by kernel_rfl) (fun _ _ _ h => h) (Or.inl ⟨by rfl, ?hq25_7⟩) (by assumption) ?rq25_7
        case hq25_7 => (intro wS hSw; (try dsimp only at hSw); go_simp; try (with_reducible rfl))
        (try simp only [Act.put, List.setIfInBounds_toArray, List.set_cons_zero, List.set_cons_succ])
        refine take_d (i := 7) (v := ?vq25_8) rfl (by rfl) (by kernel_rfl) (by kernel_rfl) (by kernel_rfl) (fun _ _ _ h => h) (Or.inl ⟨by rfl, ?hq25_8⟩) (by assumption) ?rq25_8
        case hq25_8 => (intro wS hSw; (try dsimp only at hSw); have hcq0 := cn hSw JA0; have hcq1 := cn hSw JA1; go_simp; try (with_reducible rfl))
        (try simp only [Act.put, List.setIfInBounds_toArray, List.set_cons_zero, List.set_cons_succ])
        refine take_d (i := 8) (v := ?vq25_9) rfl (by rfl) (by kernel_rfl) (by kernel_rfl) (by kernel_rfl) (fun _ _ _ h => h) (Or.inl ⟨by rfl, ?hq25_9⟩) (by assumption) ?rq25_9
        case hq25_9 => (intro wS hSw; (try dsimp only at hSw); go_simp; try (with_reducible rfl))
        (try simp only [Act.put, List.setIfInBounds_toArray, List.set_cons_zero, List.set_cons_succ])
        refine take_d (i := 9) (v := ?vq25_10) rfl (by rfl) (by kernel_rfl) (by kernel_rfl) (by kernel_rfl) (fun _ _ _ h => h) (Or.inl ⟨by rfl, ?hq25_10⟩) (by assumption) ?rq25_10
        case hq25_10 => (intro wS hSw; (try dsimp only at hSw); have hcq0 := cn hSw JA0; have hcq1 := cn hSw JA1; go_simp; try (with_reducible rfl))
        (try simp only [Act.put, List.setIfInBounds_toArray, List.set_cons_zero, List.set_cons_succ])
        refine take_d (i := 10) (v := ?vq25_11) rfl (by rfl) (by kernel_rfl) (by kernel_rfl) (by kernel_rfl) (fun _ _ _ h => h) (Or.inl ⟨by rfl, ?hq25_11⟩) (by assumption) ?rq25_11
        case hq25_11 => (intro wS hSw; (try dsimp only at hSw); go_simp; try (with_reducible rfl))
        (try simp only [Act.put, List.setIfInBounds_toArray, List.set_cons_zero, List.set_cons_succ])
        refine wpAnyH_ready (rs := [11]) (by kernel_rfl) (by simp) ?_
        refine AllReadyH.cons rfl (fun K hK => ?_) AllReadyH.nil
        go_simp
        go_at_call 46
        refine (HT.out _).mono ?_
        rintro e wq25_12 ⟨rfl, bkq25_12⟩
        have hBn := below_next hBk bkq25_12
        clear hBk bkq25_12
        have hBk := hBn
        clear hBn
        try go_simp
        refine hK.out _ _ ?_ (fun hHeld => ?_)
        · (try dsimp only); exact hBk
        clear hK K
        (try simp only [Act.put, List.setIfInBounds_toArray, List.set_cons_zero, List.set_cons_succ])
        refine take_d (i := 12) (v := ?vq25_13) rfl (by rfl) (by kernel_rfl) (by kernel_rfl) (by kernel_rfl) (fun _ _ _ h => h) (Or.inl ⟨by rfl, ?hq25_13⟩) (by assumption) ?rq25_13
        case hq25_13 => (intro wS hSw; (try dsimp only at hSw); go_simp; try (with_reducible rfl))
        (try simp only [Act.put, List.setIfInBounds_toArray, List.set_cons_zero, List.set_cons_succ])
        refine take_d (i := 13) (v := ?vq25_14) rfl (by rfl) (by kernel_rfl) (by kernel_rfl) (by kernel_rfl) (fun _ _ _ h => h) (Or.inl ⟨by rfl, ?hq25_14⟩) (by assumption) ?rq25_14
        case hq25_14 => (intro wS hSw; (try dsimp only at hSw); go_simp; try (with_reducible rfl))
        (try simp only [Act.put, List.setIfInBounds_toArray, List.set_cons_zero, List.set_cons_succ])
        refine take_d (i := 14) (v := ?vq25_15) rfl (by rfl) (by kernel_rfl) (by kernel_rfl) (by kernel_rfl) (fun _ _ _ h => h) (Or.inl ⟨by rfl, ?hq25_15⟩) (by assumption) ?rq25_15
        case hq25_15 => (intro wS hSw; (try dsimp only at hSw); have hcq0 := cn hSw JA0; have hcq1 := cn hSw JA1; go_simp; try (with_reducible rfl))
        (try simp only [Act.put, List.setIfInBounds_toArray, List.set_cons_zero, List.set_cons_succ])
        refine take_d (i := 17) (v := ?vq25_16) rfl (by rfl) (by kernel_rfl) (by kernel_rfl) (by kernel_rfl) (fun _ _ _ h => h) (Or.inl ⟨by rfl, ?hq25_16⟩) (by assumption) ?rq25_16
        case hq25_16 => (intro wS hSw; (try dsimp only at hSw); go_simp; try (with_reducible rfl))
        (try simp only [Act.put, List.setIfInBounds_toArray, List.set_cons_zero, List.set_cons_succ])
        refine take_d (i := 18) (v := ?vq25_17) rfl (by rfl) (by kernel_rfl) (by kernel_rfl) (by kernel_rfl) (fun _ _ _ h => h) (Or.inl ⟨by rfl, ?hq25_17⟩) (by assumption) ?rq25_17
        case hq25_17 => (intro wS hSw; (try dsimp only at hSw); have hcq0 := cn hSw JA0; have hcq1 := cn hSw JA1; go_simp; try (with_reducible rfl))
        (try simp only [Act.put, List.setIfInBounds_toArray, List.set_cons_zero, List.set_cons_succ])
        refine take_d (i := 19) (v := ?vq25_18) rfl (by rfl) (by kernel_rfl) (by kernel_rfl) (by kernel_rfl) (fun _ _ _ h => h) (Or.inl ⟨by rfl, ?hq25_18⟩) (by assumption) ?rq25_18
        case hq25_18 => (intro wS hSw; (try dsimp only at hSw); go_simp; try (with_reducible rfl))
        (try simp only [Act.put, List.setIfInBounds_toArray, List.set_cons_zero, List.set_cons_succ])
        refine wpAnyH_ready (rs := [15]) (by kernel_rfl) (by simp) ?_
        refine AllReadyH.cons rfl (fun K hK => ?_) AllReadyH.nil
        go_simp
        go_at_call 49
        refine (FR.out _).mono ?_
        rintro e wq25_19 ⟨rfl, bkq25_19⟩
        have hBn := below_next hBk bkq25_19
        clear hBk bkq25_19
        have hBk := hBn
        clear hBn
        try go_simp
        refine hK.out _ _ ?_ (fun hHeld => ?_)
        · (try dsimp only); exact hBk
        clear hK K
        (try simp only [Act.put, List.setIfInBounds_toArray, List.set_cons_zero, List.set_cons_succ])
        refine take_d (i := 16) (v := ?vq25_20) rfl (by rfl) (by kernel_rfl) (by kernel_rfl) (by kernel_rfl) (fun _ _ _ h => h) (Or.inl ⟨by rfl, ?hq25_20⟩) (by assumption) ?rq25_20
        case hq25_20 => (intro wS hSw; (try dsimp only at hSw); go_simp; try (with_reducible rfl))
        (try simp only [Act.put, List.setIfInBounds_toArray, List.set_cons_zero, List.set_cons_succ])
        refine take_d (i := 20) (v := ?vq25_21) rfl (by rfl) (by kernel_rfl) (by kernel_rfl) (by kernel_rfl) (fun _ _ _ h => h) (Or.inl ⟨by rfl, ?hq25_21⟩) (by assumption) ?rq25_21
        case hq25_21 => (intro wS hSw; (try dsimp only at hSw); go_simp; try (with_reducible rfl))
        (try simp only [Act.put, List.setIfInBounds_toArray, List.set_cons_zero, List.set_cons_succ])
        refine take_d (i := 21) (v := ?vq25_22) rfl (by rfl) (by kernel_rfl) (by kernel_rfl) (by kernel_rfl) (fun _ _ _ h => h) (Or.inl ⟨by rfl, ?hq25_22⟩) (by assumption) ?rq25_22
        case hq25_22 => (intro wS hSw; (try dsimp only at hSw); go_simp; try (with_reducible rfl))
        (try simp only [Act.put, List.setIfInBounds_toArray, List.set_cons_zero, List.set_cons_succ])
        refine take_d (i := 22) (v := ?vq25_23) rfl (by rfl) (by kernel_rfl) (by kernel_rfl) (by kernel_rfl) (fun _ _ _ h => h) (Or.inl ⟨by rfl, ?hq25_23⟩) (by assumption) ?rq25_23
        case hq25_23 => (intro wS hSw; (try dsimp only at hSw); go_simp; try (with_reducible rfl))
        (try simp only [Act.put, List.setIfInBounds_toArray, List.set_cons_zero, List.set_cons_succ])
        refine wpAnyH_done (by kernel_rfl) ?_ _
        clear JA0 JA1 JAl JB0 JB1 JBl JC0 JC1 JCl JJ0 JJ1 JJl JM0 JM1 JMl lB
        generalize wq25_19 = w16 at hBk ⊢
        replace JA := JA.below hBk
        replace JB := JB.below hBk
        replace JC := JC.below hBk
        replace JJ := JJ.below hBk
        replace JM := JM.below hBk
        replace B := below_next B hBk
        clear hBk
        go_wp2
        go_ret
        exact ⟨rfl, B⟩
end Go.Proofs.Ytoanbjnhoggpjaa
