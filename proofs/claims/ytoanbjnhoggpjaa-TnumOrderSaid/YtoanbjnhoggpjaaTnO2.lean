/-
  TnumOrder: the three may be: the walk, way by way.
-/
import Derived.Test.YtoanbjnhoggpjaaTnOa
namespace Go.Proofs.Ytoanbjnhoggpjaa
set_option linter.unusedSimpArgs false
set_option linter.unusedVariables false
open Go.ChangeShapes Go.WideShapes Go.ChangeAt Go.RowKit

set_option maxRecDepth 100000 in
set_option maxHeartbeats 8000000 in
theorem ord_p11 (a b c : Tn) (ha : tmay a = true) (hb : tmay b = true) (hc : tmay c = true) (hab : tin a b = true) (hba : tin b a = false) (hbc : tin b c = true) (w : World) : Calls Try.prog 11 #[tv a, tv b, tv c] w fun e w' => e = .returned (.bool true) ∧ Below w.heap.size w w' := by
  have HAW := hid awake_true
  have O := ord_of a b c ha hb hc
  have Ma : ∀ W, Calls Try.prog 43 #[tv a] W fun e w' => e = .returned (.bool true) ∧ Below W.heap.size W w' := fun W => ha ▸ tMay_any a W
  have Mb : ∀ W, Calls Try.prog 43 #[tv b] W fun e w' => e = .returned (.bool true) ∧ Below W.heap.size W w' := fun W => hb ▸ tMay_any b W
  have Mc : ∀ W, Calls Try.prog 43 #[tv c] W fun e w' => e = .returned (.bool true) ∧ Below W.heap.size W w' := fun W => hc ▸ tMay_any c W
  have XJ : ∀ W, Calls Try.prog 45 #[tv a, tv b] W fun e w' => e = .returned (.tuple #[tv (joinT a b), .int .i64 0]) ∧ Below W.heap.size W w' := fun W => by have := tJoin_any a b W; rwa [show bothT a b (joinT a b) = joinT a b by unfold bothT; rw [ha, hb]; rfl, show bothE a b = 0 by unfold bothE; rw [ha, hb]; rfl] at this
  have XM : ∀ W, Calls Try.prog 44 #[tv a, tv b] W fun e w' => e = .returned (.tuple #[tv (if meetB a b then meetT a b else t0), .bool (meetB a b)]) ∧ Below W.heap.size W w' := fun W => tMeet_any a b W
  have AL : ∀ W, Calls Try.prog 50 #[] W fun e w' => e = .returned (tv allT) ∧ Below W.heap.size W w' := fun W => tAll_any W
  have Iaa : ∀ W, Calls Try.prog 48 #[tv a, tv a] W fun e w' => e = .returned (.bool true) ∧ Below W.heap.size W w' := fun W => O.aa ▸ tIn_any a a W
  have Ial : ∀ W, Calls Try.prog 48 #[tv a, tv allT] W fun e w' => e = .returned (.bool true) ∧ Below W.heap.size W w' := fun W => O.al ▸ tIn_any a allT W
  have Iab : ∀ W, Calls Try.prog 48 #[tv a, tv b] W fun e w' => e = .returned (.bool true) ∧ Below W.heap.size W w' := fun W => hab ▸ tIn_any a b W
  have Iac : ∀ W, Calls Try.prog 48 #[tv a, tv c] W fun e w' => e = .returned (.bool (tin a c)) ∧ Below W.heap.size W w' := fun W => tIn_any a c W
  have Iaj : ∀ W, Calls Try.prog 48 #[tv a, tv (joinT a b)] W fun e w' => e = .returned (.bool true) ∧ Below W.heap.size W w' := fun W => O.aj ▸ tIn_any a (joinT a b) W
  have Ibj : ∀ W, Calls Try.prog 48 #[tv b, tv (joinT a b)] W fun e w' => e = .returned (.bool true) ∧ Below W.heap.size W w' := fun W => O.bj ▸ tIn_any b (joinT a b) W
  have Ijc : ∀ W, Calls Try.prog 48 #[tv (joinT a b), tv c] W fun e w' => e = .returned (.bool (tin (joinT a b) c)) ∧ Below W.heap.size W w' := fun W => tIn_any (joinT a b) c W
  have Ima : ∀ W, Calls Try.prog 48 #[tv (meetT a b), tv a] W fun e w' => e = .returned (.bool (tin (meetT a b) a)) ∧ Below W.heap.size W w' := fun W => tIn_any (meetT a b) a W
  have Imb : ∀ W, Calls Try.prog 48 #[tv (meetT a b), tv b] W fun e w' => e = .returned (.bool (tin (meetT a b) b)) ∧ Below W.heap.size W w' := fun W => tIn_any (meetT a b) b W
  have Ica : ∀ W, Calls Try.prog 48 #[tv c, tv a] W fun e w' => e = .returned (.bool (tin c a)) ∧ Below W.heap.size W w' := fun W => tIn_any c a W
  have Icb : ∀ W, Calls Try.prog 48 #[tv c, tv b] W fun e w' => e = .returned (.bool (tin c b)) ∧ Below W.heap.size W w' := fun W => tIn_any c b W
  have Icm : ∀ W, Calls Try.prog 48 #[tv c, tv (meetT a b)] W fun e w' => e = .returned (.bool (tin c (meetT a b))) ∧ Below W.heap.size W w' := fun W => tIn_any c (meetT a b) W
  have HL : ∀ W, Calls Try.prog 46 #[tv a, .int .u64 (ub a.1)] W fun e w' => e = .returned (.bool true) ∧ Below W.heap.size W w' := fun W => has_low ha ▸ tHas_any a a.1 W
  have HT : ∀ W, Calls Try.prog 46 #[tv a, .int .u64 (ub (a.1 ||| a.2))] W fun e w' => e = .returned (.bool true) ∧ Below W.heap.size W w' := fun W => has_top ha ▸ tHas_any a (a.1 ||| a.2) W
  have FR : ∀ W, Calls Try.prog 49 #[tv a] W fun e w' => e = .returned (.int .i64 (cntU a.2 64 : Int)) ∧ Below W.heap.size W w' := fun W => by have := tFree_any a W; rwa [ha, if_pos rfl] at this
  have Iba : ∀ W, Calls Try.prog 48 #[tv b, tv a] W fun e w' => e = .returned (.bool false) ∧ Below W.heap.size W w' := fun W => hba ▸ tIn_any b a W
  have Ibc : ∀ W, Calls Try.prog 48 #[tv b, tv c] W fun e w' => e = .returned (.bool true) ∧ Below W.heap.size W w' := fun W => hbc ▸ tIn_any b c W
  have hce : (((cntU a.2 64 : Nat) : Int) == 0) = (a.2 == 0#64) := by
    have := cnt_zero a.2
    rw [Bool.eq_iff_iff, beq_iff_eq, beq_iff_eq, ← this]
    omega
  have tr := O.tr
  have jc := O.jc
  have mA := O.ma
  have mB := O.mb
  have cM := O.cm
  rw [hab] at tr
  rw [hbc] at tr jc
  clear O ha hb hc hab hba hbc
  generalize joinT a b = J at *
  generalize tin a c = ac at *
  generalize tin J c = jcB at *
  obtain rfl : ac = true := tr rfl rfl
  generalize ((cntU a.2 64 : Nat) : Int) = N at *
  generalize meetT a b = M0 at *
  generalize meetB a b = mk at *
  generalize tin M0 a = ma at *
  generalize tin M0 b = mb at *
  generalize tin c M0 = cm at *
  generalize tin c a = ca at *
  generalize tin c b = cb at *
  clear tr
  generalize allT = Y at *
  unfold tv at Ma Mb Mc XJ XM AL Iaa Ial Iab Iac Iaj Ibj Ijc Ima Imb Ica Icb Icm HL HT FR Iba Ibc ⊢
  replace Ma := hid Ma
  replace Mb := hid Mb
  replace Mc := hid Mc
  replace XJ := hid XJ
  replace XM := hid XM
  replace AL := hid AL
  replace Iaa := hid Iaa
  replace Ial := hid Ial
  replace Iab := hid Iab
  replace Iac := hid Iac
  replace Iaj := hid Iaj
  replace Ibj := hid Ibj
  replace Ijc := hid Ijc
  replace Ima := hid Ima
  replace Imb := hid Imb
  replace Ica := hid Ica
  replace Icb := hid Icb
  replace Icm := hid Icm
  replace HL := hid HL
  replace HT := hid HT
  replace FR := hid FR
  replace Iba := hid Iba
  replace Ibc := hid Ibc
  replace jc := hid jc
  replace mA := hid mA
  replace mB := hid mB
  replace cM := hid cM
  replace hce := hid hce
  go_enter Try.func11, Try.ntmps11
  go_wp2_with fail
  refine (HAW.out _).mono ?_
  rintro e w1 ⟨rfl, z⟩
  have JA : TC w1 w.heap.size a := ((TC.new rfl).alloc _ |>.alloc _).below z
  have JB : TC w1 (w.heap.size + 1) b := ((TC.new (by simp)).alloc _).below z
  have JC : TC w1 (w.heap.size + 1 + 1) c := (TC.new (by simp)).below z
  have B : Below w.heap.size w w1 := ((((Below.refl _ _).alloc (Nat.le_refl _) _).alloc (by simp) _).alloc (by simp; omega) _).trans (z.mono (by simp; omega))
  clear z
  have JA0 := JA.2.1
  have JA1 := JA.2.2
  have JAl := JA.1
  have JB0 := JB.2.1
  have JB1 := JB.2.2
  have JBl := JB.1
  have JC0 := JC.2.1
  have JC1 := JC.2.2
  have JCl := JC.1
  have lB := B.size
  go_wp2_with fail
  refine (Ma.out _).mono ?_
  rintro e w2 ⟨rfl, z⟩
  clear JA0 JA1 JAl JB0 JB1 JBl JC0 JC1 JCl lB
  replace JA := JA.below z
  replace JB := JB.below z
  replace JC := JC.below z
  replace B := below_next B z
  clear z
  have JA0 := JA.2.1
  have JA1 := JA.2.2
  have JAl := JA.1
  have JB0 := JB.2.1
  have JB1 := JB.2.2
  have JBl := JB.1
  have JC0 := JC.2.1
  have JC1 := JC.2.2
  have JCl := JC.1
  have lB := B.size
  go_wp2_with fail
  refine (Mb.out _).mono ?_
  rintro e w3 ⟨rfl, z⟩
  clear JA0 JA1 JAl JB0 JB1 JBl JC0 JC1 JCl lB
  replace JA := JA.below z
  replace JB := JB.below z
  replace JC := JC.below z
  replace B := below_next B z
  clear z
  have JA0 := JA.2.1
  have JA1 := JA.2.2
  have JAl := JA.1
  have JB0 := JB.2.1
  have JB1 := JB.2.2
  have JBl := JB.1
  have JC0 := JC.2.1
  have JC1 := JC.2.2
  have JCl := JC.1
  have lB := B.size
  go_wp2_with fail
  refine (Mc.out _).mono ?_
  rintro e w4 ⟨rfl, z⟩
  clear JA0 JA1 JAl JB0 JB1 JBl JC0 JC1 JCl lB
  replace JA := JA.below z
  replace JB := JB.below z
  replace JC := JC.below z
  replace B := below_next B z
  clear z
  have JA0 := JA.2.1
  have JA1 := JA.2.2
  have JAl := JA.1
  have JB0 := JB.2.1
  have JB1 := JB.2.2
  have JBl := JB.1
  have JC0 := JC.2.1
  have JC1 := JC.2.2
  have JCl := JC.1
  have lB := B.size
  go_wp2_with fail
  refine (XJ.out _).mono ?_
  rintro e w5 ⟨rfl, z⟩
  clear JA0 JA1 JAl JB0 JB1 JBl JC0 JC1 JCl lB
  replace JA := JA.below z
  replace JB := JB.below z
  replace JC := JC.below z
  replace B := below_next B z
  clear z
  have JA0 := JA.2.1
  have JA1 := JA.2.2
  have JAl := JA.1
  have JB0 := JB.2.1
  have JB1 := JB.2.2
  have JBl := JB.1
  have JC0 := JC.2.1
  have JC1 := JC.2.2
  have JCl := JC.1
  have lB := B.size
  go_wp2_with fail
  clear JA0 JA1 JAl JB0 JB1 JBl JC0 JC1 JCl lB
  have JJ : TC (w5.alloc (.cells #[.int .u64 (ub J.1), .int .u64 (ub J.2)] 24)) w5.heap.size J := TC.new rfl
  replace JA := JA.alloc (.cells #[.int .u64 (ub J.1), .int .u64 (ub J.2)] 24)
  replace JB := JB.alloc (.cells #[.int .u64 (ub J.1), .int .u64 (ub J.2)] 24)
  replace JC := JC.alloc (.cells #[.int .u64 (ub J.1), .int .u64 (ub J.2)] 24)
  replace B := Below.alloc B B.size (.cells #[.int .u64 (ub J.1), .int .u64 (ub J.2)] 24)
  generalize w5.alloc (.cells #[.int .u64 (ub J.1), .int .u64 (ub J.2)] 24) = w6 at *
  generalize w5.heap.size = g1 at *
  have JA0 := JA.2.1
  have JA1 := JA.2.2
  have JAl := JA.1
  have JB0 := JB.2.1
  have JB1 := JB.2.2
  have JBl := JB.1
  have JC0 := JC.2.1
  have JC1 := JC.2.2
  have JCl := JC.1
  have JJ0 := JJ.2.1
  have JJ1 := JJ.2.2
  have JJl := JJ.1
  have lB := B.size
  go_wp2_with fail
  refine wp_region_held_drew (S := (fun w' : World => Below w6.heap.size w6 w')) (by kernel_rfl) ?_ (fun hHeld => ?_)
  · (try dsimp only); first | (with_reducible exact below_dr _) | (with_reducible exact Below.refl _ _) | exact below_dr _
  have hBk := below_dr w6
  refine take_d (i := 0) (v := ?vordp11r1) rfl (by rfl) (by kernel_rfl) (by kernel_rfl) (by kernel_rfl) (fun _ _ _ h => h) (Or.inl ⟨by rfl, ?hordp11r1⟩) (by assumption) ?rordp11r1
  case hordp11r1 => (intro wS hSw; (try dsimp only at hSw); go_simp; try (with_reducible rfl))
  (try simp only [Act.put, List.setIfInBounds_toArray, List.set_cons_zero, List.set_cons_succ])
  refine take_d (i := 1) (v := ?vordp11r2) rfl (by rfl) (by kernel_rfl) (by kernel_rfl) (by kernel_rfl) (fun _ _ _ h => h) (Or.inl ⟨by rfl, ?hordp11r2⟩) (by assumption) ?rordp11r2
  case hordp11r2 => (intro wS hSw; (try dsimp only at hSw); go_simp; try (with_reducible rfl))
  (try simp only [Act.put, List.setIfInBounds_toArray, List.set_cons_zero, List.set_cons_succ])
  refine take_d (i := 2) (v := ?vordp11r3) rfl (by rfl) (by kernel_rfl) (by kernel_rfl) (by kernel_rfl) (fun _ _ _ h => h) (Or.inl ⟨by rfl, ?hordp11r3⟩) (by assumption) ?rordp11r3
  case hordp11r3 => (intro wS hSw; (try dsimp only at hSw); go_simp; try (with_reducible rfl))
  (try simp only [Act.put, List.setIfInBounds_toArray, List.set_cons_zero, List.set_cons_succ])
  refine take_d (i := 3) (v := ?vordp11r4) rfl (by rfl) (by kernel_rfl) (by kernel_rfl) (by kernel_rfl) (fun _ _ _ h => h) (Or.inl ⟨by rfl, ?hordp11r4⟩) (by assumption) ?rordp11r4
  case hordp11r4 => (intro wS hSw; (try dsimp only at hSw); have hcq0 := cn hSw JA0; have hcq1 := cn hSw JA1; go_simp; try (with_reducible rfl))
  (try simp only [Act.put, List.setIfInBounds_toArray, List.set_cons_zero, List.set_cons_succ])
  refine take_d (i := 4) (v := ?vordp11r5) rfl (by rfl) (by kernel_rfl) (by kernel_rfl) (by kernel_rfl) (fun _ _ _ h => h) (Or.inl ⟨by rfl, ?hordp11r5⟩) (by assumption) ?rordp11r5
  case hordp11r5 => (intro wS hSw; (try dsimp only at hSw); have hcq0 := cn hSw JA0; have hcq1 := cn hSw JA1; go_simp; try (with_reducible rfl))
  (try simp only [Act.put, List.setIfInBounds_toArray, List.set_cons_zero, List.set_cons_succ])
  refine wpAnyH_ready (rs := [5]) (by kernel_rfl) (by simp) ?_
  refine AllReadyH.cons rfl (fun K hK => ?_) AllReadyH.nil
  go_simp
  go_at_call 48
  refine (Iaa.out _).mono ?_
  rintro e wordp11r6 ⟨rfl, bkordp11r6⟩
  have hBn := below_next hBk bkordp11r6
  clear hBk bkordp11r6
  have hBk := hBn
  clear hBn
  try go_simp
  refine hK.out _ _ ?_ (fun hHeld => ?_)
  · (try dsimp only); exact hBk
  clear hK K
  (try simp only [Act.put, List.setIfInBounds_toArray, List.set_cons_zero, List.set_cons_succ])
  refine take_d (i := 6) (v := ?vordp11r7) rfl (by rfl) (by kernel_rfl) (by kernel_rfl) (by kernel_rfl) (fun _ _ _ h => h) (Or.inl ⟨by rfl, ?hordp11r7⟩) (by assumption) ?rordp11r7
  case hordp11r7 => (intro wS hSw; (try dsimp only at hSw); go_simp; try (with_reducible rfl))
  (try simp only [Act.put, List.setIfInBounds_toArray, List.set_cons_zero, List.set_cons_succ])
  refine take_d (i := 7) (v := ?vordp11r8) rfl (by rfl) (by kernel_rfl) (by kernel_rfl) (by kernel_rfl) (fun _ _ _ h => h) (Or.inl ⟨by rfl, ?hordp11r8⟩) (by assumption) ?rordp11r8
  case hordp11r8 => (intro wS hSw; (try dsimp only at hSw); go_simp; try (with_reducible rfl))
  (try simp only [Act.put, List.setIfInBounds_toArray, List.set_cons_zero, List.set_cons_succ])
  refine take_d (i := 8) (v := ?vordp11r9) rfl (by rfl) (by kernel_rfl) (by kernel_rfl) (by kernel_rfl) (fun _ _ _ h => h) (Or.inl ⟨by rfl, ?hordp11r9⟩) (by assumption) ?rordp11r9
  case hordp11r9 => (intro wS hSw; (try dsimp only at hSw); go_simp; try (with_reducible rfl))
  (try simp only [Act.put, List.setIfInBounds_toArray, List.set_cons_zero, List.set_cons_succ])
  refine take_d (i := 9) (v := ?vordp11r10) rfl (by rfl) (by kernel_rfl) (by kernel_rfl) (by kernel_rfl) (fun _ _ _ h => h) (Or.inl ⟨by rfl, ?hordp11r10⟩) (by assumption) ?rordp11r10
  case hordp11r10 => (intro wS hSw; (try dsimp only at hSw); have hcq0 := cn hSw JA0; have hcq1 := cn hSw JA1; go_simp; try (with_reducible rfl))
  (try simp only [Act.put, List.setIfInBounds_toArray, List.set_cons_zero, List.set_cons_succ])
  refine wpAnyH_ready (rs := [10]) (by kernel_rfl) (by simp) ?_
  refine AllReadyH.cons rfl (fun K hK => ?_) AllReadyH.nil
  go_simp
  go_at_call 50
  refine (AL.out _).mono ?_
  rintro e wordp11r11 ⟨rfl, bkordp11r11⟩
  have hBn := below_next hBk bkordp11r11
  clear hBk bkordp11r11
  have hBk := hBn
  clear hBn
  try go_simp
  refine hK.out _ _ ?_ (fun hHeld => ?_)
  · (try dsimp only); exact hBk
  clear hK K
  (try simp only [Act.put, List.setIfInBounds_toArray, List.set_cons_zero, List.set_cons_succ])
  refine wpAnyH_ready (rs := [11]) (by kernel_rfl) (by simp) ?_
  refine AllReadyH.cons rfl (fun K hK => ?_) AllReadyH.nil
  go_simp
  go_at_call 48
  refine (Ial.out _).mono ?_
  rintro e wordp11r12 ⟨rfl, bkordp11r12⟩
  have hBn := below_next hBk bkordp11r12
  clear hBk bkordp11r12
  have hBk := hBn
  clear hBn
  try go_simp
  refine hK.out _ _ ?_ (fun hHeld => ?_)
  · (try dsimp only); exact hBk
  clear hK K
  (try simp only [Act.put, List.setIfInBounds_toArray, List.set_cons_zero, List.set_cons_succ])
  refine take_d (i := 12) (v := ?vordp11r13) rfl (by rfl) (by kernel_rfl) (by kernel_rfl) (by kernel_rfl) (fun _ _ _ h => h) (Or.inl ⟨by rfl, ?hordp11r13⟩) (by assumption) ?rordp11r13
  case hordp11r13 => (intro wS hSw; (try dsimp only at hSw); go_simp; try (with_reducible rfl))
  (try simp only [Act.put, List.setIfInBounds_toArray, List.set_cons_zero, List.set_cons_succ])
  refine take_d (i := 13) (v := ?vordp11r14) rfl (by rfl) (by kernel_rfl) (by kernel_rfl) (by kernel_rfl) (fun _ _ _ h => h) (Or.inl ⟨by rfl, ?hordp11r14⟩) (by assumption) ?rordp11r14
  case hordp11r14 => (intro wS hSw; (try dsimp only at hSw); go_simp; try (with_reducible rfl))
  (try simp only [Act.put, List.setIfInBounds_toArray, List.set_cons_zero, List.set_cons_succ])
  refine take_d (i := 14) (v := ?vordp11r15) rfl (by rfl) (by kernel_rfl) (by kernel_rfl) (by kernel_rfl) (fun _ _ _ h => h) (Or.inl ⟨by rfl, ?hordp11r15⟩) (by assumption) ?rordp11r15
  case hordp11r15 => (intro wS hSw; (try dsimp only at hSw); go_simp; try (with_reducible rfl))
  (try simp only [Act.put, List.setIfInBounds_toArray, List.set_cons_zero, List.set_cons_succ])
  refine take_d (i := 15) (v := ?vordp11r16) rfl (by rfl) (by kernel_rfl) (by kernel_rfl) (by kernel_rfl) (fun _ _ _ h => h) (Or.inl ⟨by rfl, ?hordp11r16⟩) (by assumption) ?rordp11r16
  case hordp11r16 => (intro wS hSw; (try dsimp only at hSw); have hcq0 := cn hSw JA0; have hcq1 := cn hSw JA1; go_simp; try (with_reducible rfl))
  (try simp only [Act.put, List.setIfInBounds_toArray, List.set_cons_zero, List.set_cons_succ])
  refine take_d (i := 16) (v := ?vordp11r17) rfl (by rfl) (by kernel_rfl) (by kernel_rfl) (by kernel_rfl) (fun _ _ _ h => h) (Or.inl ⟨by rfl, ?hordp11r17⟩) (by assumption) ?rordp11r17
  case hordp11r17 => (intro wS hSw; (try dsimp only at hSw); have hcq0 := cn hSw JB0; have hcq1 := cn hSw JB1; go_simp; try (with_reducible rfl))
  (try simp only [Act.put, List.setIfInBounds_toArray, List.set_cons_zero, List.set_cons_succ])
  refine wpAnyH_ready (rs := [17]) (by kernel_rfl) (by simp) ?_
  refine AllReadyH.cons rfl (fun K hK => ?_) AllReadyH.nil
  go_simp
  go_at_call 48
  refine (Iab.out _).mono ?_
  rintro e wordp11r18 ⟨rfl, bkordp11r18⟩
  have hBn := below_next hBk bkordp11r18
  clear hBk bkordp11r18
  have hBk := hBn
  clear hBn
  try go_simp
  refine hK.out _ _ ?_ (fun hHeld => ?_)
  · (try dsimp only); exact hBk
  clear hK K
  (try simp only [Act.put, List.setIfInBounds_toArray, List.set_cons_zero, List.set_cons_succ])
  refine take_d (i := 18) (v := ?vordp11r19) rfl (by rfl) (by kernel_rfl) (by kernel_rfl) (by kernel_rfl) (fun _ _ _ h => h) (Or.inl ⟨by rfl, ?hordp11r19⟩) (by assumption) ?rordp11r19
  case hordp11r19 => (intro wS hSw; (try dsimp only at hSw); go_simp; try (with_reducible rfl))
  (try simp only [Act.put, List.setIfInBounds_toArray, List.set_cons_zero, List.set_cons_succ])
  refine take_d (i := 19) (v := ?vordp11r20) rfl (by rfl) (by kernel_rfl) (by kernel_rfl) (by kernel_rfl) (fun _ _ _ h => h) (Or.inl ⟨by rfl, ?hordp11r20⟩) (by assumption) ?rordp11r20
  case hordp11r20 => (intro wS hSw; (try dsimp only at hSw); have hcq0 := cn hSw JB0; have hcq1 := cn hSw JB1; go_simp; try (with_reducible rfl))
  (try simp only [Act.put, List.setIfInBounds_toArray, List.set_cons_zero, List.set_cons_succ])
  refine take_d (i := 20) (v := ?vordp11r21) rfl (by rfl) (by kernel_rfl) (by kernel_rfl) (by kernel_rfl) (fun _ _ _ h => h) (Or.inl ⟨by rfl, ?hordp11r21⟩) (by assumption) ?rordp11r21
  case hordp11r21 => (intro wS hSw; (try dsimp only at hSw); have hcq0 := cn hSw JA0; have hcq1 := cn hSw JA1; go_simp; try (with_reducible rfl))
  (try simp only [Act.put, List.setIfInBounds_toArray, List.set_cons_zero, List.set_cons_succ])
  refine wpAnyH_ready (rs := [21]) (by kernel_rfl) (by simp) ?_
  refine AllReadyH.cons rfl (fun K hK => ?_) AllReadyH.nil
  go_simp
  go_at_call 48
  refine (Iba.out _).mono ?_
  rintro e wordp11r22 ⟨rfl, bkordp11r22⟩
  have hBn := below_next hBk bkordp11r22
  clear hBk bkordp11r22
  have hBk := hBn
  clear hBn
  try go_simp
  refine hK.out _ _ ?_ (fun hHeld => ?_)
  · (try dsimp only); exact hBk
  clear hK K
  (try simp only [Act.put, List.setIfInBounds_toArray, List.set_cons_zero, List.set_cons_succ])
  refine take_d (i := 22) (v := ?vordp11r23) rfl (by rfl) (by kernel_rfl) (by kernel_rfl) (by kernel_rfl) (fun _ _ _ h => h) (Or.inl ⟨by rfl, ?hordp11r23⟩) (by assumption) ?rordp11r23
  case hordp11r23 => (intro wS hSw; (try dsimp only at hSw); go_simp; try (with_reducible rfl))
  (try simp only [Act.put, List.setIfInBounds_toArray, List.set_cons_zero, List.set_cons_succ])
  refine take_d (i := 23) (v := ?vordp11r24) rfl (by rfl) (by kernel_rfl) (by kernel_rfl) (by kernel_rfl) (fun _ _ _ h => h) (Or.inl ⟨by rfl, ?hordp11r24⟩) (by assumption) ?rordp11r24
  case hordp11r24 => (intro wS hSw; (try dsimp only at hSw); go_simp; try (with_reducible rfl))
  (try simp only [Act.put, List.setIfInBounds_toArray, List.set_cons_zero, List.set_cons_succ])
  refine take_d (i := 24) (v := undef) rfl (by rfl) (by kernel_rfl) (by kernel_rfl) (by kernel_rfl) (fun _ _ _ h => h) (Or.inr ⟨by rfl, rfl⟩) (by assumption) ?rordp11r25
  (try simp only [Act.put, List.setIfInBounds_toArray, List.set_cons_zero, List.set_cons_succ])
  refine take_d (i := 25) (v := undef) rfl (by rfl) (by kernel_rfl) (by kernel_rfl) (by kernel_rfl) (fun _ _ _ h => h) (Or.inr ⟨by rfl, rfl⟩) (by assumption) ?rordp11r26
  (try simp only [Act.put, List.setIfInBounds_toArray, List.set_cons_zero, List.set_cons_succ])
  refine take_d (i := 26) (v := undef) rfl (by rfl) (by kernel_rfl) (by kernel_rfl) (by kernel_rfl) (fun _ _ _ h => h) (Or.inr ⟨by rfl, rfl⟩) (by assumption) ?rordp11r27
  (try simp only [Act.put, List.setIfInBounds_toArray, List.set_cons_zero, List.set_cons_succ])
  refine take_d (i := 27) (v := ?vordp11r28) rfl (by rfl) (by kernel_rfl) (by kernel_rfl) (by kernel_rfl) (fun _ _ _ h => h) (Or.inl ⟨by rfl, ?hordp11r28⟩) (by assumption) ?rordp11r28
  case hordp11r28 => (intro wS hSw; (try dsimp only at hSw); go_simp; try (with_reducible rfl))
  (try simp only [Act.put, List.setIfInBounds_toArray, List.set_cons_zero, List.set_cons_succ])
  refine take_d (i := 28) (v := ?vordp11r29) rfl (by rfl) (by kernel_rfl) (by kernel_rfl) (by kernel_rfl) (fun _ _ _ h => h) (Or.inl ⟨by rfl, ?hordp11r29⟩) (by assumption) ?rordp11r29
  case hordp11r29 => (intro wS hSw; (try dsimp only at hSw); go_simp; try (with_reducible rfl))
  (try simp only [Act.put, List.setIfInBounds_toArray, List.set_cons_zero, List.set_cons_succ])
  refine take_d (i := 29) (v := ?vordp11r30) rfl (by rfl) (by kernel_rfl) (by kernel_rfl) (by kernel_rfl) (fun _ _ _ h => h) (Or.inl ⟨by rfl, ?hordp11r30⟩) (by assumption) ?rordp11r30
  case hordp11r30 => (intro wS hSw; (try dsimp only at hSw); go_simp; try (with_reducible rfl))
  (try simp only [Act.put, List.setIfInBounds_toArray, List.set_cons_zero, List.set_cons_succ])
  refine take_d (i := 30) (v := ?vordp11r31) rfl (by rfl) (by kernel_rfl) (by kernel_rfl) (by kernel_rfl) (fun _ _ _ h => h) (Or.inl ⟨by rfl, ?hordp11r31⟩) (by assumption) ?rordp11r31
  case hordp11r31 => (intro wS hSw; (try dsimp only at hSw); have hcq0 := cn hSw JA0; have hcq1 := cn hSw JA1; go_simp; try (with_reducible rfl))
  (try simp only [Act.put, List.setIfInBounds_toArray, List.set_cons_zero, List.set_cons_succ])
  refine take_d (i := 31) (v := ?vordp11r32) rfl (by rfl) (by kernel_rfl) (by kernel_rfl) (by kernel_rfl) (fun _ _ _ h => h) (Or.inl ⟨by rfl, ?hordp11r32⟩) (by assumption) ?rordp11r32
  case hordp11r32 => (intro wS hSw; (try dsimp only at hSw); have hcq0 := cn hSw JB0; have hcq1 := cn hSw JB1; go_simp; try (with_reducible rfl))
  (try simp only [Act.put, List.setIfInBounds_toArray, List.set_cons_zero, List.set_cons_succ])
  refine wpAnyH_ready (rs := [32]) (by kernel_rfl) (by simp) ?_
  refine AllReadyH.cons rfl (fun K hK => ?_) AllReadyH.nil
  go_simp
  go_at_call 48
  refine (Iab.out _).mono ?_
  rintro e wordp11r33 ⟨rfl, bkordp11r33⟩
  have hBn := below_next hBk bkordp11r33
  clear hBk bkordp11r33
  have hBk := hBn
  clear hBn
  try go_simp
  refine hK.out _ _ ?_ (fun hHeld => ?_)
  · (try dsimp only); exact hBk
  clear hK K
  (try simp only [Act.put, List.setIfInBounds_toArray, List.set_cons_zero, List.set_cons_succ])
  refine take_d (i := 33) (v := ?vordp11r34) rfl (by rfl) (by kernel_rfl) (by kernel_rfl) (by kernel_rfl) (fun _ _ _ h => h) (Or.inl ⟨by rfl, ?hordp11r34⟩) (by assumption) ?rordp11r34
  case hordp11r34 => (intro wS hSw; (try dsimp only at hSw); go_simp; try (with_reducible rfl))
  (try simp only [Act.put, List.setIfInBounds_toArray, List.set_cons_zero, List.set_cons_succ])
  refine take_d (i := 34) (v := ?vordp11r35) rfl (by rfl) (by kernel_rfl) (by kernel_rfl) (by kernel_rfl) (fun _ _ _ h => h) (Or.inl ⟨by rfl, ?hordp11r35⟩) (by assumption) ?rordp11r35
  case hordp11r35 => (intro wS hSw; (try dsimp only at hSw); have hcq0 := cn hSw JB0; have hcq1 := cn hSw JB1; go_simp; try (with_reducible rfl))
  (try simp only [Act.put, List.setIfInBounds_toArray, List.set_cons_zero, List.set_cons_succ])
  refine take_d (i := 35) (v := ?vordp11r36) rfl (by rfl) (by kernel_rfl) (by kernel_rfl) (by kernel_rfl) (fun _ _ _ h => h) (Or.inl ⟨by rfl, ?hordp11r36⟩) (by assumption) ?rordp11r36
  case hordp11r36 => (intro wS hSw; (try dsimp only at hSw); have hcq0 := cn hSw JC0; have hcq1 := cn hSw JC1; go_simp; try (with_reducible rfl))
  (try simp only [Act.put, List.setIfInBounds_toArray, List.set_cons_zero, List.set_cons_succ])
  refine wpAnyH_ready (rs := [36]) (by kernel_rfl) (by simp) ?_
  refine AllReadyH.cons rfl (fun K hK => ?_) AllReadyH.nil
  go_simp
  go_at_call 48
  refine (Ibc.out _).mono ?_
  rintro e wordp11r37 ⟨rfl, bkordp11r37⟩
  have hBn := below_next hBk bkordp11r37
  clear hBk bkordp11r37
  have hBk := hBn
  clear hBn
  try go_simp
  refine hK.out _ _ ?_ (fun hHeld => ?_)
  · (try dsimp only); exact hBk
  clear hK K
  (try simp only [Act.put, List.setIfInBounds_toArray, List.set_cons_zero, List.set_cons_succ])
  refine take_d (i := 37) (v := ?vordp11r38) rfl (by rfl) (by kernel_rfl) (by kernel_rfl) (by kernel_rfl) (fun _ _ _ h => h) (Or.inl ⟨by rfl, ?hordp11r38⟩) (by assumption) ?rordp11r38
  case hordp11r38 => (intro wS hSw; (try dsimp only at hSw); go_simp; try (with_reducible rfl))
  (try simp only [Act.put, List.setIfInBounds_toArray, List.set_cons_zero, List.set_cons_succ])
  refine take_d (i := 38) (v := ?vordp11r39) rfl (by rfl) (by kernel_rfl) (by kernel_rfl) (by kernel_rfl) (fun _ _ _ h => h) (Or.inl ⟨by rfl, ?hordp11r39⟩) (by assumption) ?rordp11r39
  case hordp11r39 => (intro wS hSw; (try dsimp only at hSw); go_simp; try (with_reducible rfl))
  (try simp only [Act.put, List.setIfInBounds_toArray, List.set_cons_zero, List.set_cons_succ])
  refine take_d (i := 39) (v := ?vordp11r40) rfl (by rfl) (by kernel_rfl) (by kernel_rfl) (by kernel_rfl) (fun _ _ _ h => h) (Or.inl ⟨by rfl, ?hordp11r40⟩) (by assumption) ?rordp11r40
  case hordp11r40 => (intro wS hSw; (try dsimp only at hSw); have hcq0 := cn hSw JA0; have hcq1 := cn hSw JA1; go_simp; try (with_reducible rfl))
  (try simp only [Act.put, List.setIfInBounds_toArray, List.set_cons_zero, List.set_cons_succ])
  refine take_d (i := 40) (v := ?vordp11r41) rfl (by rfl) (by kernel_rfl) (by kernel_rfl) (by kernel_rfl) (fun _ _ _ h => h) (Or.inl ⟨by rfl, ?hordp11r41⟩) (by assumption) ?rordp11r41
  case hordp11r41 => (intro wS hSw; (try dsimp only at hSw); have hcq0 := cn hSw JC0; have hcq1 := cn hSw JC1; go_simp; try (with_reducible rfl))
  (try simp only [Act.put, List.setIfInBounds_toArray, List.set_cons_zero, List.set_cons_succ])
  refine wpAnyH_ready (rs := [41]) (by kernel_rfl) (by simp) ?_
  refine AllReadyH.cons rfl (fun K hK => ?_) AllReadyH.nil
  go_simp
  go_at_call 48
  refine (Iac.out _).mono ?_
  rintro e wordp11r42 ⟨rfl, bkordp11r42⟩
  have hBn := below_next hBk bkordp11r42
  clear hBk bkordp11r42
  have hBk := hBn
  clear hBn
  try go_simp
  refine hK.out _ _ ?_ (fun hHeld => ?_)
  · (try dsimp only); exact hBk
  clear hK K
  (try simp only [Act.put, List.setIfInBounds_toArray, List.set_cons_zero, List.set_cons_succ])
  refine take_d (i := 42) (v := ?vordp11r43) rfl (by rfl) (by kernel_rfl) (by kernel_rfl) (by kernel_rfl) (fun _ _ _ h => h) (Or.inl ⟨by rfl, ?hordp11r43⟩) (by assumption) ?rordp11r43
  case hordp11r43 => (intro wS hSw; (try dsimp only at hSw); go_simp; try (with_reducible rfl))
  (try simp only [Act.put, List.setIfInBounds_toArray, List.set_cons_zero, List.set_cons_succ])
  refine take_d (i := 43) (v := ?vordp11r44) rfl (by rfl) (by kernel_rfl) (by kernel_rfl) (by kernel_rfl) (fun _ _ _ h => h) (Or.inl ⟨by rfl, ?hordp11r44⟩) (by assumption) ?rordp11r44
  case hordp11r44 => (intro wS hSw; (try dsimp only at hSw); go_simp; try (with_reducible rfl))
  (try simp only [Act.put, List.setIfInBounds_toArray, List.set_cons_zero, List.set_cons_succ])
  refine take_d (i := 44) (v := ?vordp11r45) rfl (by rfl) (by kernel_rfl) (by kernel_rfl) (by kernel_rfl) (fun _ _ _ h => h) (Or.inl ⟨by rfl, ?hordp11r45⟩) (by assumption) ?rordp11r45
  case hordp11r45 => (intro wS hSw; (try dsimp only at hSw); go_simp; try (with_reducible rfl))
  (try simp only [Act.put, List.setIfInBounds_toArray, List.set_cons_zero, List.set_cons_succ])
  refine wpAnyH_done (by kernel_rfl) ?_ _
  clear JA0 JA1 JAl JB0 JB1 JBl JC0 JC1 JCl JJ0 JJ1 JJl lB
  generalize wordp11r42 = w7 at hBk ⊢
  replace JA := JA.below hBk
  replace JB := JB.below hBk
  replace JC := JC.below hBk
  replace JJ := JJ.below hBk
  replace B := below_next B hBk
  clear hBk
  have JA0 := JA.2.1
  have JA1 := JA.2.2
  have JAl := JA.1
  have JB0 := JB.2.1
  have JB1 := JB.2.2
  have JBl := JB.1
  have JC0 := JC.2.1
  have JC1 := JC.2.2
  have JCl := JC.1
  have JJ0 := JJ.2.1
  have JJ1 := JJ.2.2
  have JJl := JJ.1
  have lB := B.size
  go_wp2_with fail
  refine (Iaj.out _).mono ?_
  rintro e w8 ⟨rfl, z⟩
  clear JA0 JA1 JAl JB0 JB1 JBl JC0 JC1 JCl JJ0 JJ1 JJl lB
  replace JA := JA.below z
  replace JB := JB.below z
  replace JC := JC.below z
  replace JJ := JJ.below z
  replace B := below_next B z
  clear z
  have JA0 := JA.2.1
  have JA1 := JA.2.2
  have JAl := JA.1
  have JB0 := JB.2.1
  have JB1 := JB.2.2
  have JBl := JB.1
  have JC0 := JC.2.1
  have JC1 := JC.2.2
  have JCl := JC.1
  have JJ0 := JJ.2.1
  have JJ1 := JJ.2.2
  have JJl := JJ.1
  have lB := B.size
  go_wp2_with fail
  refine (Ibj.out _).mono ?_
  rintro e w9 ⟨rfl, z⟩
  clear JA0 JA1 JAl JB0 JB1 JBl JC0 JC1 JCl JJ0 JJ1 JJl lB
  replace JA := JA.below z
  replace JB := JB.below z
  replace JC := JC.below z
  replace JJ := JJ.below z
  replace B := below_next B z
  clear z
  have JA0 := JA.2.1
  have JA1 := JA.2.2
  have JAl := JA.1
  have JB0 := JB.2.1
  have JB1 := JB.2.2
  have JBl := JB.1
  have JC0 := JC.2.1
  have JC1 := JC.2.2
  have JCl := JC.1
  have JJ0 := JJ.2.1
  have JJ1 := JJ.2.2
  have JJl := JJ.1
  have lB := B.size
  go_wp2_with fail
  refine (Iac.out _).mono ?_
  rintro e w10 ⟨rfl, z⟩
  clear JA0 JA1 JAl JB0 JB1 JBl JC0 JC1 JCl JJ0 JJ1 JJl lB
  replace JA := JA.below z
  replace JB := JB.below z
  replace JC := JC.below z
  replace JJ := JJ.below z
  replace B := below_next B z
  clear z
  have JA0 := JA.2.1
  have JA1 := JA.2.2
  have JAl := JA.1
  have JB0 := JB.2.1
  have JB1 := JB.2.2
  have JBl := JB.1
  have JC0 := JC.2.1
  have JC1 := JC.2.2
  have JCl := JC.1
  have JJ0 := JJ.2.1
  have JJ1 := JJ.2.2
  have JJl := JJ.1
  have lB := B.size
  go_wp2_with fail
  refine (Ibc.out _).mono ?_
  rintro e w11 ⟨rfl, z⟩
  clear JA0 JA1 JAl JB0 JB1 JBl JC0 JC1 JCl JJ0 JJ1 JJl lB
  replace JA := JA.below z
  replace JB := JB.below z
  replace JC := JC.below z
  replace JJ := JJ.below z
  replace B := below_next B z
  clear z
  obtain rfl : jcB = true := jc.out (by trivial) (by trivial)
  have JA0 := JA.2.1
  have JA1 := JA.2.2
  have JAl := JA.1
  have JB0 := JB.2.1
  have JB1 := JB.2.2
  have JBl := JB.1
  have JC0 := JC.2.1
  have JC1 := JC.2.2
  have JCl := JC.1
  have JJ0 := JJ.2.1
  have JJ1 := JJ.2.2
  have JJl := JJ.1
  have lB := B.size
  go_wp2_with fail
  refine (Ijc.out _).mono ?_
  rintro e w12 ⟨rfl, z⟩
  clear JA0 JA1 JAl JB0 JB1 JBl JC0 JC1 JCl JJ0 JJ1 JJl lB
  replace JA := JA.below z
  replace JB := JB.below z
  replace JC := JC.below z
  replace JJ := JJ.below z
  replace B := below_next B z
  clear z
  have JA0 := JA.2.1
  have JA1 := JA.2.2
  have JAl := JA.1
  have JB0 := JB.2.1
  have JB1 := JB.2.2
  have JBl := JB.1
  have JC0 := JC.2.1
  have JC1 := JC.2.2
  have JCl := JC.1
  have JJ0 := JJ.2.1
  have JJ1 := JJ.2.2
  have JJl := JJ.1
  have lB := B.size
  go_wp2_with fail
  refine (XM.out _).mono ?_
  rintro e w13 ⟨rfl, z⟩
  clear JA0 JA1 JAl JB0 JB1 JBl JC0 JC1 JCl JJ0 JJ1 JJl lB
  replace JA := JA.below z
  replace JB := JB.below z
  replace JC := JC.below z
  replace JJ := JJ.below z
  replace B := below_next B z
  clear z
  rcases (show mk = true ∨ mk = false by cases mk <;> simp) with rfl | rfl
  · skip
    obtain rfl : ma = true := mA.out (by trivial)
    obtain rfl : mb = true := mB.out (by trivial)
    clear mA mB
    have JA0 := JA.2.1
    have JA1 := JA.2.2
    have JAl := JA.1
    have JB0 := JB.2.1
    have JB1 := JB.2.2
    have JBl := JB.1
    have JC0 := JC.2.1
    have JC1 := JC.2.2
    have JCl := JC.1
    have JJ0 := JJ.2.1
    have JJ1 := JJ.2.2
    have JJl := JJ.1
    have lB := B.size
    go_wp2_with fail
    clear JA0 JA1 JAl JB0 JB1 JBl JC0 JC1 JCl JJ0 JJ1 JJl lB
    have JM : TC (w13.alloc (.cells #[.int .u64 (ub M0.1), .int .u64 (ub M0.2)] 24)) w13.heap.size M0 := TC.new rfl
    replace JA := JA.alloc (.cells #[.int .u64 (ub M0.1), .int .u64 (ub M0.2)] 24)
    replace JB := JB.alloc (.cells #[.int .u64 (ub M0.1), .int .u64 (ub M0.2)] 24)
    replace JC := JC.alloc (.cells #[.int .u64 (ub M0.1), .int .u64 (ub M0.2)] 24)
    replace JJ := JJ.alloc (.cells #[.int .u64 (ub M0.1), .int .u64 (ub M0.2)] 24)
    replace B := Below.alloc B B.size (.cells #[.int .u64 (ub M0.1), .int .u64 (ub M0.2)] 24)
    generalize w13.alloc (.cells #[.int .u64 (ub M0.1), .int .u64 (ub M0.2)] 24) = w14 at *
    generalize w13.heap.size = g2 at *
    have JA0 := JA.2.1
    have JA1 := JA.2.2
    have JAl := JA.1
    have JB0 := JB.2.1
    have JB1 := JB.2.2
    have JBl := JB.1
    have JC0 := JC.2.1
    have JC1 := JC.2.2
    have JCl := JC.1
    have JJ0 := JJ.2.1
    have JJ1 := JJ.2.2
    have JJl := JJ.1
    have JM0 := JM.2.1
    have JM1 := JM.2.2
    have JMl := JM.1
    have lB := B.size
    go_wp2_with fail
    refine (Ima.out _).mono ?_
    rintro e w15 ⟨rfl, z⟩
    clear JA0 JA1 JAl JB0 JB1 JBl JC0 JC1 JCl JJ0 JJ1 JJl JM0 JM1 JMl lB
    replace JA := JA.below z
    replace JB := JB.below z
    replace JC := JC.below z
    replace JJ := JJ.below z
    replace JM := JM.below z
    replace B := below_next B z
    clear z
    have JA0 := JA.2.1
    have JA1 := JA.2.2
    have JAl := JA.1
    have JB0 := JB.2.1
    have JB1 := JB.2.2
    have JBl := JB.1
    have JC0 := JC.2.1
    have JC1 := JC.2.2
    have JCl := JC.1
    have JJ0 := JJ.2.1
    have JJ1 := JJ.2.2
    have JJl := JJ.1
    have JM0 := JM.2.1
    have JM1 := JM.2.2
    have JMl := JM.1
    have lB := B.size
    go_wp2_with fail
    refine (Imb.out _).mono ?_
    rintro e w16 ⟨rfl, z⟩
    clear JA0 JA1 JAl JB0 JB1 JBl JC0 JC1 JCl JJ0 JJ1 JJl JM0 JM1 JMl lB
    replace JA := JA.below z
    replace JB := JB.below z
    replace JC := JC.below z
    replace JJ := JJ.below z
    replace JM := JM.below z
    replace B := below_next B z
    clear z
    have JA0 := JA.2.1
    have JA1 := JA.2.2
    have JAl := JA.1
    have JB0 := JB.2.1
    have JB1 := JB.2.2
    have JBl := JB.1
    have JC0 := JC.2.1
    have JC1 := JC.2.2
    have JCl := JC.1
    have JJ0 := JJ.2.1
    have JJ1 := JJ.2.2
    have JJl := JJ.1
    have JM0 := JM.2.1
    have JM1 := JM.2.2
    have JMl := JM.1
    have lB := B.size
    go_wp2_with fail
    refine (Ica.out _).mono ?_
    rintro e w17 ⟨rfl, z⟩
    clear JA0 JA1 JAl JB0 JB1 JBl JC0 JC1 JCl JJ0 JJ1 JJl JM0 JM1 JMl lB
    replace JA := JA.below z
    replace JB := JB.below z
    replace JC := JC.below z
    replace JJ := JJ.below z
    replace JM := JM.below z
    replace B := below_next B z
    clear z
    cases ca
    · skip
      have hce := hce.out
      have JA0 := JA.2.1
      have JA1 := JA.2.2
      have JAl := JA.1
      have JB0 := JB.2.1
      have JB1 := JB.2.2
      have JBl := JB.1
      have JC0 := JC.2.1
      have JC1 := JC.2.2
      have JCl := JC.1
      have JJ0 := JJ.2.1
      have JJ1 := JJ.2.2
      have JJl := JJ.1
      have JM0 := JM.2.1
      have JM1 := JM.2.2
      have JMl := JM.1
      have lB := B.size
      go_wp2_with fail
      refine wp_region_held_drew (S := (fun w' : World => Below w17.heap.size w17 w')) (by kernel_rfl) ?_ (fun hHeld => ?_)
      · (try dsimp only); first | (with_reducible exact below_dr _) | (with_reducible exact Below.refl _ _) | exact below_dr _
      have hBk := below_dr w17
      refine take_d (i := 0) (v := ?vq26_1) rfl (by rfl) (by kernel_rfl) (by kernel_rfl) (by kernel_rfl) (fun _ _ _ h => h) (Or.inl ⟨by rfl, ?hq26_1⟩) (by assumption) ?rq26_1
      case hq26_1 => (intro wS hSw; (try dsimp only at hSw); have hcq0 := cn hSw JA0; have hcq1 := cn hSw JA1; go_simp; try (with_reducible rfl))
      (try simp only [Act.put, List.setIfInBounds_toArray, List.set_cons_zero, List.set_cons_succ])
      refine take_d (i := 1) (v := ?vq26_2) rfl (by rfl) (by kernel_rfl) (by kernel_rfl) (by kernel_rfl) (fun _ _ _ h => h) (Or.inl ⟨by rfl, ?hq26_2⟩) (by assumption) ?rq26_2
      case hq26_2 => (intro wS hSw; (try dsimp only at hSw); go_simp; try (with_reducible rfl))
      (try simp only [Act.put, List.setIfInBounds_toArray, List.set_cons_zero, List.set_cons_succ])
      refine take_d (i := 2) (v := ?vq26_3) rfl (by rfl) (by kernel_rfl) (by kernel_rfl) (by kernel_rfl) (fun _ _ _ h => h) (Or.inl ⟨by rfl, ?hq26_3⟩) (by assumption) ?rq26_3
      case hq26_3 => (intro wS hSw; (try dsimp only at hSw); have hcq0 := cn hSw JA0; have hcq1 := cn hSw JA1; go_simp; try (with_reducible rfl))
      (try simp only [Act.put, List.setIfInBounds_toArray, List.set_cons_zero, List.set_cons_succ])
      refine wpAnyH_ready (rs := [3]) (by kernel_rfl) (by simp) ?_
      refine AllReadyH.cons rfl (fun K hK => ?_) AllReadyH.nil
      go_simp
      go_at_call 46
      refine (HL.out _).mono ?_
      rintro e wq26_4 ⟨rfl, bkq26_4⟩
      have hBn := below_next hBk bkq26_4
      clear hBk bkq26_4
      have hBk := hBn
      clear hBn
      try go_simp
      refine hK.out _ _ ?_ (fun hHeld => ?_)
      · (try dsimp only); exact hBk
      clear hK K
      (try simp only [Act.put, List.setIfInBounds_toArray, List.set_cons_zero, List.set_cons_succ])
      refine take_d (i := 4) (v := ?vq26_5) rfl (by rfl) (by kernel_rfl) (by kernel_rfl) (by kernel_rfl) (fun _ _ _ h => h) (Or.inl ⟨by rfl, ?hq26_5⟩) (by assumption) ?rq26_5
      case hq26_5 => (intro wS hSw; (try dsimp only at hSw); go_simp; try (with_reducible rfl))
      (try simp only [Act.put, List.setIfInBounds_toArray, List.set_cons_zero, List.set_cons_succ])
      refine take_d (i := 5) (v := ?vq26_6) rfl (by rfl) (by kernel_rfl) (by kernel_rfl) (by kernel_rfl) (fun _ _ _ h => h) (Or.inl ⟨by rfl, ?hq26_6⟩) (by assumption) ?rq26_6
      case hq26_6 => (intro wS hSw; (try dsimp only at hSw); have hcq0 := cn hSw JA0; have hcq1 := cn hSw JA1; go_simp; try (with_reducible rfl))
      (try simp only [Act.put, List.setIfInBounds_toArray, List.set_cons_zero, List.set_cons_succ])
      refine take_d (i := 6) (v := ?vq26_7) rfl (by rfl) (by kernel_rfl) (by kernel_rfl) (by kernel_rfl) (fun _ _ _ h => h) (Or.inl ⟨by rfl, ?hq26_7⟩) (by assumption) ?rq26_7
      case hq26_7 => (intro wS hSw; (try dsimp only at hSw); go_simp; try (with_reducible rfl))
      (try simp only [Act.put, List.setIfInBounds_toArray, List.set_cons_zero, List.set_cons_succ])
      refine take_d (i := 7) (v := ?vq26_8) rfl (by rfl) (by kernel_rfl) (by kernel_rfl) (by kernel_rfl) (fun _ _ _ h => h) (Or.inl ⟨by rfl, ?hq26_8⟩) (by assumption) ?rq26_8
      case hq26_8 => (intro wS hSw; (try dsimp only at hSw); have hcq0 := cn hSw JA0; have hcq1 := cn hSw JA1; go_simp; try (with_reducible rfl))
      (try simp only [Act.put, List.setIfInBounds_toArray, List.set_cons_zero, List.set_cons_succ])
      refine take_d (i := 8) (v := ?vq26_9) rfl (by rfl) (by kernel_rfl) (by kernel_rfl) (by kernel_rfl) (fun _ _ _ h => h) (Or.inl ⟨by rfl, ?hq26_9⟩) (by assumption) ?rq26_9
      case hq26_9 => (intro wS hSw; (try dsimp only at hSw); go_simp; try (with_reducible rfl))
      (try simp only [Act.put, List.setIfInBounds_toArray, List.set_cons_zero, List.set_cons_succ])
      refine take_d (i := 9) (v := ?vq26_10) rfl (by rfl) (by kernel_rfl) (by kernel_rfl) (by kernel_rfl) (fun _ _ _ h => h) (Or.inl ⟨by rfl, ?hq26_10⟩) (by assumption) ?rq26_10
      case hq26_10 => (intro wS hSw; (try dsimp only at hSw); have hcq0 := cn hSw JA0; have hcq1 := cn hSw JA1; go_simp; try (with_reducible rfl))
      (try simp only [Act.put, List.setIfInBounds_toArray, List.set_cons_zero, List.set_cons_succ])
      refine take_d (i := 10) (v := ?vq26_11) rfl (by rfl) (by kernel_rfl) (by kernel_rfl) (by kernel_rfl) (fun _ _ _ h => h) (Or.inl ⟨by rfl, ?hq26_11⟩) (by assumption) ?rq26_11
      case hq26_11 => (intro wS hSw; (try dsimp only at hSw); go_simp; try (with_reducible rfl))
      (try simp only [Act.put, List.setIfInBounds_toArray, List.set_cons_zero, List.set_cons_succ])
      refine wpAnyH_ready (rs := [11]) (by kernel_rfl) (by simp) ?_
      refine AllReadyH.cons rfl (fun K hK => ?_) AllReadyH.nil
      go_simp
      go_at_call 46
      refine (HT.out _).mono ?_
      rintro e wq26_12 ⟨rfl, bkq26_12⟩
      have hBn := below_next hBk bkq26_12
      clear hBk bkq26_12
      have hBk := hBn
      clear hBn
      try go_simp
      refine hK.out _ _ ?_ (fun hHeld => ?_)
      · (try dsimp only); exact hBk
      clear hK K
      (try simp only [Act.put, List.setIfInBounds_toArray, List.set_cons_zero, List.set_cons_succ])
      refine take_d (i := 12) (v := ?vq26_13) rfl (by rfl) (by kernel_rfl) (by kernel_rfl) (by kernel_rfl) (fun _ _ _ h => h) (Or.inl ⟨by rfl, ?hq26_13⟩) (by assumption) ?rq26_13
      case hq26_13 => (intro wS hSw; (try dsimp only at hSw); go_simp; try (with_reducible rfl))
      (try simp only [Act.put, List.setIfInBounds_toArray, List.set_cons_zero, List.set_cons_succ])
      refine take_d (i := 13) (v := ?vq26_14) rfl (by rfl) (by kernel_rfl) (by kernel_rfl) (by kernel_rfl) (fun _ _ _ h => h) (Or.inl ⟨by rfl, ?hq26_14⟩) (by assumption) ?rq26_14
      case hq26_14 => (intro wS hSw; (try dsimp only at hSw); go_simp; try (with_reducible rfl))
      (try simp only [Act.put, List.setIfInBounds_toArray, List.set_cons_zero, List.set_cons_succ])
      refine take_d (i := 14) (v := ?vq26_15) rfl (by rfl) (by kernel_rfl) (by kernel_rfl) (by kernel_rfl) (fun _ _ _ h => h) (Or.inl ⟨by rfl, ?hq26_15⟩) (by assumption) ?rq26_15
      case hq26_15 => (intro wS hSw; (try dsimp only at hSw); have hcq0 := cn hSw JA0; have hcq1 := cn hSw JA1; go_simp; try (with_reducible rfl))
      (try simp only [Act.put, List.setIfInBounds_toArray, List.set_cons_zero, List.set_cons_succ])
      refine take_d (i := 17) (v := ?vq26_16) rfl (by rfl) (by kernel_rfl) (by kernel_rfl) (by kernel_rfl) (fun _ _ _ h => h) (Or.inl ⟨by rfl, ?hq26_16⟩) (by assumption) ?rq26_16
      case hq26_16 => (intro wS hSw; (try dsimp only at hSw); go_simp; try (with_reducible rfl))
      (try simp only [Act.put, List.setIfInBounds_toArray, List.set_cons_zero, List.set_cons_succ])
      refine take_d (i := 18) (v := ?vq26_17) rfl (by rfl) (by kernel_rfl) (by kernel_rfl) (by kernel_rfl) (fun _ _ _ h => h) (Or.inl ⟨by rfl, ?hq26_17⟩) (by assumption) ?rq26_17
      case hq26_17 => (intro wS hSw; (try dsimp only at hSw); have hcq0 := cn hSw JA0; have hcq1 := cn hSw JA1; go_simp; try (with_reducible rfl))
      (try simp only [Act.put, List.setIfInBounds_toArray, List.set_cons_zero, List.set_cons_succ])
      refine take_d (i := 19) (v := ?vq26_18) rfl (by rfl) (by kernel_rfl) (by kernel_rfl) (by kernel_rfl) (fun _ _ _ h => h) (Or.inl ⟨by rfl, ?hq26_18⟩) (by assumption) ?rq26_18
      case hq26_18 => (intro wS hSw; (try dsimp only at hSw); go_simp; try (with_reducible rfl))
      (try simp only [Act.put, List.setIfInBounds_toArray, List.set_cons_zero, List.set_cons_succ])
      refine wpAnyH_ready (rs := [15]) (by kernel_rfl) (by simp) ?_
      refine AllReadyH.cons rfl (fun K hK => ?_) AllReadyH.nil
      go_simp
      go_at_call 49
      refine (FR.out _).mono ?_
      rintro e wq26_19 ⟨rfl, bkq26_19⟩
      have hBn := below_next hBk bkq26_19
      clear hBk bkq26_19
      have hBk := hBn
      clear hBn
      try go_simp
      refine hK.out _ _ ?_ (fun hHeld => ?_)
      · (try dsimp only); exact hBk
      clear hK K
      (try simp only [Act.put, List.setIfInBounds_toArray, List.set_cons_zero, List.set_cons_succ])
      refine take_d (i := 16) (v := ?vq26_20) rfl (by rfl) (by kernel_rfl) (by kernel_rfl) (by kernel_rfl) (fun _ _ _ h => h) (Or.inl ⟨by rfl, ?hq26_20⟩) (by assumption) ?rq26_20
      case hq26_20 => (intro wS hSw; (try dsimp only at hSw); go_simp; try (with_reducible rfl))
      (try simp only [Act.put, List.setIfInBounds_toArray, List.set_cons_zero, List.set_cons_succ])
      refine take_d (i := 20) (v := ?vq26_21) rfl (by rfl) (by kernel_rfl) (by kernel_rfl) (by kernel_rfl) (fun _ _ _ h => h) (Or.inl ⟨by rfl, ?hq26_21⟩) (by assumption) ?rq26_21
      case hq26_21 => (intro wS hSw; (try dsimp only at hSw); go_simp; try (with_reducible rfl))
      (try simp only [Act.put, List.setIfInBounds_toArray, List.set_cons_zero, List.set_cons_succ])
      refine take_d (i := 21) (v := ?vq26_22) rfl (by rfl) (by kernel_rfl) (by kernel_rfl) (by kernel_rfl) (fun _ _ _ h => h) (Or.inl ⟨by rfl, ?hq26_22⟩) (by assumption) ?rq26_22
      case hq26_22 => (intro wS hSw; (try dsimp only at hSw); go_simp; try (with_reducible rfl))
      (try simp only [Act.put, List.setIfInBounds_toArray, List.set_cons_zero, List.set_cons_succ])
      refine take_d (i := 22) (v := ?vq26_23) rfl (by rfl) (by kernel_rfl) (by kernel_rfl) (by kernel_rfl) (fun _ _ _ h => h) (Or.inl ⟨by rfl, ?hq26_23⟩) (by assumption) ?rq26_23
      case hq26_23 => (intro wS hSw; (try dsimp only at hSw); go_simp; try (with_reducible rfl))
      (try simp only [Act.put, List.setIfInBounds_toArray, List.set_cons_zero, List.set_cons_succ])
      refine wpAnyH_done (by kernel_rfl) ?_ _
      clear JA0 JA1 JAl JB0 JB1 JBl JC0 JC1 JCl JJ0 JJ1 JJl JM0 JM1 JMl lB
      generalize wq26_19 = w18 at hBk ⊢
      replace JA := JA.below hBk
      replace JB := JB.below hBk
      replace JC := JC.below hBk
      replace JJ := JJ.below hBk
      replace JM := JM.below hBk
      replace B := below_next B hBk
      clear hBk
      go_wp2
      go_ret
      exact ⟨rfl, B⟩
    · skip
      have JA0 := JA.2.1
      have JA1 := JA.2.2
      have JAl := JA.1
      have JB0 := JB.2.1
      have JB1 := JB.2.2
      have JBl := JB.1
      have JC0 := JC.2.1
      have JC1 := JC.2.2
      have JCl := JC.1
      have JJ0 := JJ.2.1
      have JJ1 := JJ.2.2
      have JJl := JJ.1
      have JM0 := JM.2.1
      have JM1 := JM.2.2
      have JMl := JM.1
      have lB := B.size
      go_wp2_with fail
      refine (Icb.out _).mono ?_
      rintro e w18 ⟨rfl, z⟩
      clear JA0 JA1 JAl JB0 JB1 JBl JC0 JC1 JCl JJ0 JJ1 JJl JM0 JM1 JMl lB
      replace JA := JA.below z
      replace JB := JB.below z
      replace JC := JC.below z
      replace JJ := JJ.below z
      replace JM := JM.below z
      replace B := below_next B z
      clear z
      cases cb
      · skip
        have hce := hce.out
        have JA0 := JA.2.1
        have JA1 := JA.2.2
        have JAl := JA.1
        have JB0 := JB.2.1
        have JB1 := JB.2.2
        have JBl := JB.1
        have JC0 := JC.2.1
        have JC1 := JC.2.2
        have JCl := JC.1
        have JJ0 := JJ.2.1
        have JJ1 := JJ.2.2
        have JJl := JJ.1
        have JM0 := JM.2.1
        have JM1 := JM.2.2
        have JMl := JM.1
        have lB := B.size
        go_wp2_with fail
        refine wp_region_held_drew (S := (fun w' : World => Below w18.heap.size w18 w')) (by kernel_rfl) ?_ (fun hHeld => ?_)
        · (try dsimp only); first | (with_reducible exact below_dr _) | (with_reducible exact Below.refl _ _) | exact below_dr _
        have hBk := below_dr w18
        refine take_d (i := 0) (v := ?vq27_1) rfl (by rfl) (by kernel_rfl) (by kernel_rfl) (by kernel_rfl) (fun _ _ _ h => h) (Or.inl ⟨by rfl, ?hq27_1⟩) (by assumption) ?rq27_1
        case hq27_1 => (intro wS hSw; (try dsimp only at hSw); have hcq0 := cn hSw JA0; have hcq1 := cn hSw JA1; go_simp; try (with_reducible rfl))
        (try simp only [Act.put, List.setIfInBounds_toArray, List.set_cons_zero, List.set_cons_succ])
        refine take_d (i := 1) (v := ?vq27_2) rfl (by rfl) (by kernel_rfl) (by kernel_rfl) (by kernel_rfl) (fun _ _ _ h => h) (Or.inl ⟨by rfl, ?hq27_2⟩) (by assumption) ?rq27_2
        case hq27_2 => (intro wS hSw; (try dsimp only at hSw); go_simp; try (with_reducible rfl))
        (try simp only [Act.put, List.setIfInBounds_toArray, List.set_cons_zero, List.set_cons_succ])
        refine take_d (i := 2) (v := ?vq27_3) rfl (by rfl) (by kernel_rfl) (by kernel_rfl) (by kernel_rfl) (fun _ _ _ h => h) (Or.inl ⟨by rfl, ?hq27_3⟩) (by assumption) ?rq27_3
        case hq27_3 => (intro wS hSw; (try dsimp only at hSw); have hcq0 := cn hSw JA0; have hcq1 := cn hSw JA1; go_simp; try (with_reducible rfl))
        (try simp only [Act.put, List.setIfInBounds_toArray, List.set_cons_zero, List.set_cons_succ])
        refine wpAnyH_ready (rs := [3]) (by kernel_rfl) (by simp) ?_
        refine AllReadyH.cons rfl (fun K hK => ?_) AllReadyH.nil
        go_simp
        go_at_call 46
        refine (HL.out _).mono ?_
        rintro e wq27_4 ⟨rfl, bkq27_4⟩
        have hBn := below_next hBk bkq27_4
        clear hBk bkq27_4
        have hBk := hBn
        clear hBn
        try go_simp
        refine hK.out _ _ ?_ (fun hHeld => ?_)
        · (try dsimp only); exact hBk
        clear hK K
        (try simp only [Act.put, List.setIfInBounds_toArray, List.set_cons_zero, List.set_cons_succ])
        refine take_d (i := 4) (v := ?vq27_5) rfl (by rfl) (by kernel_rfl) (by kernel_rfl) (by kernel_rfl) (fun _ _ _ h => h) (Or.inl ⟨by rfl, ?hq27_5⟩) (by assumption) ?rq27_5
        case hq27_5 => (intro wS hSw; (try dsimp only at hSw); go_simp; try (with_reducible rfl))
        (try simp only [Act.put, List.setIfInBounds_toArray, List.set_cons_zero, List.set_cons_succ])
        refine take_d (i := 5) (v := ?vq27_6) rfl (by rfl) (by kernel_rfl) (by kernel_rfl) (by kernel_rfl) (fun _ _ _ h => h) (Or.inl ⟨by rfl, ?hq27_6⟩) (by assumption) ?rq27_6
        case hq27_6 => (intro wS hSw; (try dsimp only at hSw); have hcq0 := cn hSw JA0; have hcq1 := cn hSw JA1; go_simp; try (with_reducible rfl))
        (try simp only [Act.put, List.setIfInBounds_toArray, List.set_cons_zero, List.set_cons_succ])
        refine take_d (i := 6) (v := ?vq27_7) rfl (by rfl) (by kernel_rfl) (by kernel_rfl) (by kernel_rfl) (fun _ _ _ h => h) (Or.inl ⟨by rfl, ?hq27_7⟩) (by assumption) ?rq27_7
        case hq27_7 => (intro wS hSw; (try dsimp only at hSw); go_simp; try (with_reducible rfl))
        (try simp only [Act.put, List.setIfInBounds_toArray, List.set_cons_zero, List.set_cons_succ])
        refine take_d (i := 7) (v := ?vq27_8) rfl (by rfl) (by kernel_rfl) (by kernel_rfl) (by kernel_rfl) (fun _ _ _ h => h) (Or.inl ⟨by rfl, ?hq27_8⟩) (by assumption) ?rq27_8
        case hq27_8 => (intro wS hSw; (try dsimp only at hSw); have hcq0 := cn hSw JA0; have hcq1 := cn hSw JA1; go_simp; try (with_reducible rfl))
        (try simp only [Act.put, List.setIfInBounds_toArray, List.set_cons_zero, List.set_cons_succ])
        refine take_d (i := 8) (v := ?vq27_9) rfl (by rfl) (by kernel_rfl) (by kernel_rfl) (by kernel_rfl) (fun _ _ _ h => h) (Or.inl ⟨by rfl, ?hq27_9⟩) (by assumption) ?rq27_9
        case hq27_9 => (intro wS hSw; (try dsimp only at hSw); go_simp; try (with_reducible rfl))
        (try simp only [Act.put, List.setIfInBounds_toArray, List.set_cons_zero, List.set_cons_succ])
        refine take_d (i := 9) (v := ?vq27_10) rfl (by rfl) (by kernel_rfl) (by kernel_rfl) (by kernel_rfl) (fun _ _ _ h => h) (Or.inl ⟨by rfl, ?hq27_10⟩) (by assumption) ?rq27_10
        case hq27_10 => (intro wS hSw; (try dsimp only at hSw); have hcq0 := cn hSw JA0; have hcq1 := cn hSw JA1; go_simp; try (with_reducible rfl))
        (try simp only [Act.put, List.setIfInBounds_toArray, List.set_cons_zero, List.set_cons_succ])
        refine take_d (i := 10) (v := ?vq27_11) rfl (by rfl) (by kernel_rfl) (by kernel_rfl) (by kernel_rfl) (fun _ _ _ h => h) (Or.inl ⟨by rfl, ?hq27_11⟩) (by assumption) ?rq27_11
        case hq27_11 => (intro wS hSw; (try dsimp only at hSw); go_simp; try (with_reducible rfl))
        (try simp only [Act.put, List.setIfInBounds_toArray, List.set_cons_zero, List.set_cons_succ])
        refine wpAnyH_ready (rs := [11]) (by kernel_rfl) (by simp) ?_
        refine AllReadyH.cons rfl (fun K hK => ?_) AllReadyH.nil
        go_simp
        go_at_call 46
        refine (HT.out _).mono ?_
        rintro e wq27_12 ⟨rfl, bkq27_12⟩
        have hBn := below_next hBk bkq27_12
        clear hBk bkq27_12
        have hBk := hBn
        clear hBn
        try go_simp
        refine hK.out _ _ ?_ (fun hHeld => ?_)
        · (try dsimp only); exact hBk
        clear hK K
        (try simp only [Act.put, List.setIfInBounds_toArray, List.set_cons_zero, List.set_cons_succ])
        refine take_d (i := 12) (v := ?vq27_13) rfl (by rfl) (by kernel_rfl) (by kernel_rfl) (by kernel_rfl) (fun _ _ _ h => h) (Or.inl ⟨by rfl, ?hq27_13⟩) (by assumption) ?rq27_13
        case hq27_13 => (intro wS hSw; (try dsimp only at hSw); go_simp; try (with_reducible rfl))
        (try simp only [Act.put, List.setIfInBounds_toArray, List.set_cons_zero, List.set_cons_succ])
        refine take_d (i := 13) (v := ?vq27_14) rfl (by rfl) (by kernel_rfl) (by kernel_rfl) (by kernel_rfl) (fun _ _ _ h => h) (Or.inl ⟨by rfl, ?hq27_14⟩) (by assumption) ?rq27_14
        case hq27_14 => (intro wS hSw; (try dsimp only at hSw); go_simp; try (with_reducible rfl))
        (try simp only [Act.put, List.setIfInBounds_toArray, List.set_cons_zero, List.set_cons_succ])
        refine take_d (i := 14) (v := ?vq27_15) rfl (by rfl) (by kernel_rfl) (by kernel_rfl) (by kernel_rfl) (fun _ _ _ h => h) (Or.inl ⟨by rfl, ?hq27_15⟩) (by assumption) ?rq27_15
        case hq27_15 => (intro wS hSw; (try dsimp only at hSw); have hcq0 := cn hSw JA0; have hcq1 := cn hSw JA1; go_simp; try (with_reducible rfl))
        (try simp only [Act.put, List.setIfInBounds_toArray, List.set_cons_zero, List.set_cons_succ])
        refine take_d (i := 17) (v := ?vq27_16) rfl (by rfl) (by kernel_rfl) (by kernel_rfl) (by kernel_rfl) (fun _ _ _ h => h) (Or.inl ⟨by rfl, ?hq27_16⟩) (by assumption) ?rq27_16
        case hq27_16 => (intro wS hSw; (try dsimp only at hSw); go_simp; try (with_reducible rfl))
        (try simp only [Act.put, List.setIfInBounds_toArray, List.set_cons_zero, List.set_cons_succ])
        refine take_d (i := 18) (v := ?vq27_17) rfl (by rfl) (by kernel_rfl) (by kernel_rfl) (by kernel_rfl) (fun _ _ _ h => h) (Or.inl ⟨by rfl, ?hq27_17⟩) (by assumption) ?rq27_17
        case hq27_17 => (intro wS hSw; (try dsimp only at hSw); have hcq0 := cn hSw JA0; have hcq1 := cn hSw JA1; go_simp; try (with_reducible rfl))
        (try simp only [Act.put, List.setIfInBounds_toArray, List.set_cons_zero, List.set_cons_succ])
        refine take_d (i := 19) (v := ?vq27_18) rfl (by rfl) (by kernel_rfl) (by kernel_rfl) (by kernel_rfl) (fun _ _ _ h => h) (Or.inl ⟨by rfl, ?hq27_18⟩) (by assumption) ?rq27_18
        case hq27_18 => (intro wS hSw; (try dsimp only at hSw); go_simp; try (with_reducible rfl))
        (try simp only [Act.put, List.setIfInBounds_toArray, List.set_cons_zero, List.set_cons_succ])
        refine wpAnyH_ready (rs := [15]) (by kernel_rfl) (by simp) ?_
        refine AllReadyH.cons rfl (fun K hK => ?_) AllReadyH.nil
        go_simp
        go_at_call 49
        refine (FR.out _).mono ?_
        rintro e wq27_19 ⟨rfl, bkq27_19⟩
        have hBn := below_next hBk bkq27_19
        clear hBk bkq27_19
        have hBk := hBn
        clear hBn
        try go_simp
        refine hK.out _ _ ?_ (fun hHeld => ?_)
        · (try dsimp only); exact hBk
        clear hK K
        (try simp only [Act.put, List.setIfInBounds_toArray, List.set_cons_zero, List.set_cons_succ])
        refine take_d (i := 16) (v := ?vq27_20) rfl (by rfl) (by kernel_rfl) (by kernel_rfl) (by kernel_rfl) (fun _ _ _ h => h) (Or.inl ⟨by rfl, ?hq27_20⟩) (by assumption) ?rq27_20
        case hq27_20 => (intro wS hSw; (try dsimp only at hSw); go_simp; try (with_reducible rfl))
        (try simp only [Act.put, List.setIfInBounds_toArray, List.set_cons_zero, List.set_cons_succ])
        refine take_d (i := 20) (v := ?vq27_21) rfl (by rfl) (by kernel_rfl) (by kernel_rfl) (by kernel_rfl) (fun _ _ _ h => h) (Or.inl ⟨by rfl, ?hq27_21⟩) (by assumption) ?rq27_21
        case hq27_21 => (intro wS hSw; (try dsimp only at hSw); go_simp; try (with_reducible rfl))
        (try simp only [Act.put, List.setIfInBounds_toArray, List.set_cons_zero, List.set_cons_succ])
        refine take_d (i := 21) (v := ?vq27_22) rfl (by rfl) (by kernel_rfl) (by kernel_rfl) (by kernel_rfl) (fun _ _ _ h => h) (Or.inl ⟨by rfl, ?hq27_22⟩) (by assumption) ?rq27_22
        case hq27_22 => (intro wS hSw; (try dsimp only at hSw); go_simp; try (with_reducible rfl))
        (try simp only [Act.put, List.setIfInBounds_toArray, List.set_cons_zero, List.set_cons_succ])
        refine take_d (i := 22) (v := ?vq27_23) rfl (by rfl) (by kernel_rfl) (by kernel_rfl) (by kernel_rfl) (fun _ _ _ h => h) (Or.inl ⟨by rfl, ?hq27_23⟩) (by assumption) ?rq27_23
        case hq27_23 => (intro wS hSw; (try dsimp only at hSw); go_simp; try (with_reducible rfl))
        (try simp only [Act.put, List.setIfInBounds_toArray, List.set_cons_zero, List.set_cons_succ])
        refine wpAnyH_done (by kernel_rfl) ?_ _
        clear JA0 JA1 JAl JB0 JB1 JBl JC0 JC1 JCl JJ0 JJ1 JJl JM0 JM1 JMl lB
        generalize wq27_19 = w19 at hBk ⊢
        replace JA := JA.below hBk
        replace JB := JB.below hBk
        replace JC := JC.below hBk
        replace JJ := JJ.below hBk
        replace JM := JM.below hBk
        replace B := below_next B hBk
        clear hBk
        go_wp2
        go_ret
        exact ⟨rfl, B⟩
      · skip
        obtain rfl : cm = true := (cM.out (by trivial) (by trivial)).2
        have JA0 := JA.2.1
        have JA1 := JA.2.2
        have JAl := JA.1
        have JB0 := JB.2.1
        have JB1 := JB.2.2
        have JBl := JB.1
        have JC0 := JC.2.1
        have JC1 := JC.2.2
        have JCl := JC.1
        have JJ0 := JJ.2.1
        have JJ1 := JJ.2.2
        have JJl := JJ.1
        have JM0 := JM.2.1
        have JM1 := JM.2.2
        have JMl := JM.1
        have lB := B.size
        go_wp2_with fail
        refine (Icm.out _).mono ?_
        rintro e w19 ⟨rfl, z⟩
        clear JA0 JA1 JAl JB0 JB1 JBl JC0 JC1 JCl JJ0 JJ1 JJl JM0 JM1 JMl lB
        replace JA := JA.below z
        replace JB := JB.below z
        replace JC := JC.below z
        replace JJ := JJ.below z
        replace JM := JM.below z
        replace B := below_next B z
        clear z
        have hce := hce.out
        have JA0 := JA.2.1
        have JA1 := JA.2.2
        have JAl := JA.1
        have JB0 := JB.2.1
        have JB1 := JB.2.2
        have JBl := JB.1
        have JC0 := JC.2.1
        have JC1 := JC.2.2
        have JCl := JC.1
        have JJ0 := JJ.2.1
        have JJ1 := JJ.2.2
        have JJl := JJ.1
        have JM0 := JM.2.1
        have JM1 := JM.2.2
        have JMl := JM.1
        have lB := B.size
        go_wp2_with fail
        refine wp_region_held_drew (S := (fun w' : World => Below w19.heap.size w19 w')) (by kernel_rfl) ?_ (fun hHeld => ?_)
        · (try dsimp only); first | (with_reducible exact below_dr _) | (with_reducible exact Below.refl _ _) | exact below_dr _
        have hBk := below_dr w19
        refine take_d (i := 0) (v := ?vq28_1) rfl (by rfl) (by kernel_rfl) (by kernel_rfl) (by kernel_rfl) (fun _ _ _ h => h) (Or.inl ⟨by rfl, ?hq28_1⟩) (by assumption) ?rq28_1
        case hq28_1 => (intro wS hSw; (try dsimp only at hSw); have hcq0 := cn hSw JA0; have hcq1 := cn hSw JA1; go_simp; try (with_reducible rfl))
        (try simp only [Act.put, List.setIfInBounds_toArray, List.set_cons_zero, List.set_cons_succ])
        refine take_d (i := 1) (v := ?vq28_2) rfl (by rfl) (by kernel_rfl) (by kernel_rfl) (by kernel_rfl) (fun _ _ _ h => h) (Or.inl ⟨by rfl, ?hq28_2⟩) (by assumption) ?rq28_2
        case hq28_2 => (intro wS hSw; (try dsimp only at hSw); go_simp; try (with_reducible rfl))
        (try simp only [Act.put, List.setIfInBounds_toArray, List.set_cons_zero, List.set_cons_succ])
        refine take_d (i := 2) (v := ?vq28_3) rfl (by rfl) (by kernel_rfl) (by kernel_rfl) (by kernel_rfl) (fun _ _ _ h => h) (Or.inl ⟨by rfl, ?hq28_3⟩) (by assumption) ?rq28_3
        case hq28_3 => (intro wS hSw; (try dsimp only at hSw); have hcq0 := cn hSw JA0; have hcq1 := cn hSw JA1; go_simp; try (with_reducible rfl))
        (try simp only [Act.put, List.setIfInBounds_toArray, List.set_cons_zero, List.set_cons_succ])
        refine wpAnyH_ready (rs := [3]) (by kernel_rfl) (by simp) ?_
        refine AllReadyH.cons rfl (fun K hK => ?_) AllReadyH.nil
        go_simp
        go_at_call 46
        refine (HL.out _).mono ?_
        rintro e wq28_4 ⟨rfl, bkq28_4⟩
        have hBn := below_next hBk bkq28_4
        clear hBk bkq28_4
        have hBk := hBn
        clear hBn
        try go_simp
        refine hK.out _ _ ?_ (fun hHeld => ?_)
        · (try dsimp only); exact hBk
        clear hK K
        (try simp only [Act.put, List.setIfInBounds_toArray, List.set_cons_zero, List.set_cons_succ])
        refine take_d (i := 4) (v := ?vq28_5) rfl (by rfl) (by kernel_rfl) (by kernel_rfl) (by kernel_rfl) (fun _ _ _ h => h) (Or.inl ⟨by rfl, ?hq28_5⟩) (by assumption) ?rq28_5
        case hq28_5 => (intro wS hSw; (try dsimp only at hSw); go_simp; try (with_reducible rfl))
        (try simp only [Act.put, List.setIfInBounds_toArray, List.set_cons_zero, List.set_cons_succ])
        refine take_d (i := 5) (v := ?vq28_6) rfl (by rfl) (by kernel_rfl) (by kernel_rfl) (by kernel_rfl) (fun _ _ _ h => h) (Or.inl ⟨by rfl, ?hq28_6⟩) (by assumption) ?rq28_6
        case hq28_6 => (intro wS hSw; (try dsimp only at hSw); have hcq0 := cn hSw JA0; have hcq1 := cn hSw JA1; go_simp; try (with_reducible rfl))
        (try simp only [Act.put, List.setIfInBounds_toArray, List.set_cons_zero, List.set_cons_succ])
        refine take_d (i := 6) (v := ?vq28_7) rfl (by rfl) (by kernel_rfl) (by kernel_rfl) (by kernel_rfl) (fun _ _ _ h => h) (Or.inl ⟨by rfl, ?hq28_7⟩) (by assumption) ?rq28_7
        case hq28_7 => (intro wS hSw; (try dsimp only at hSw); go_simp; try (with_reducible rfl))
        (try simp only [Act.put, List.setIfInBounds_toArray, List.set_cons_zero, List.set_cons_succ])
        refine take_d (i := 7) (v := ?vq28_8) rfl (by rfl) (by kernel_rfl) (by kernel_rfl) (by kernel_rfl) (fun _ _ _ h => h) (Or.inl ⟨by rfl, ?hq28_8⟩) (by assumption) ?rq28_8
        case hq28_8 => (intro wS hSw; (try dsimp only at hSw); have hcq0 := cn hSw JA0; have hcq1 := cn hSw JA1; go_simp; try (with_reducible rfl))
        (try simp only [Act.put, List.setIfInBounds_toArray, List.set_cons_zero, List.set_cons_succ])
        refine take_d (i := 8) (v := ?vq28_9) rfl (by rfl) (by kernel_rfl) (by kernel_rfl) (by kernel_rfl) (fun _ _ _ h => h) (Or.inl ⟨by rfl, ?hq28_9⟩) (by assumption) ?rq28_9
        case hq28_9 => (intro wS hSw; (try dsimp only at hSw); go_simp; try (with_reducible rfl))
        (try simp only [Act.put, List.setIfInBounds_toArray, List.set_cons_zero, List.set_cons_succ])
        refine take_d (i := 9) (v := ?vq28_10) rfl (by rfl) (by kernel_rfl) (by kernel_rfl) (by kernel_rfl) (fun _ _ _ h => h) (Or.inl ⟨by rfl, ?hq28_10⟩) (by assumption) ?rq28_10
        case hq28_10 => (intro wS hSw; (try dsimp only at hSw); have hcq0 := cn hSw JA0; have hcq1 := cn hSw JA1; go_simp; try (with_reducible rfl))
        (try simp only [Act.put, List.setIfInBounds_toArray, List.set_cons_zero, List.set_cons_succ])
        refine take_d (i := 10) (v := ?vq28_11) rfl (by rfl) (by kernel_rfl) (by kernel_rfl) (by kernel_rfl) (fun _ _ _ h => h) (Or.inl ⟨by rfl, ?hq28_11⟩) (by assumption) ?rq28_11
        case hq28_11 => (intro wS hSw; (try dsimp only at hSw); go_simp; try (with_reducible rfl))
        (try simp only [Act.put, List.setIfInBounds_toArray, List.set_cons_zero, List.set_cons_succ])
        refine wpAnyH_ready (rs := [11]) (by kernel_rfl) (by simp) ?_
        refine AllReadyH.cons rfl (fun K hK => ?_) AllReadyH.nil
        go_simp
        go_at_call 46
        refine (HT.out _).mono ?_
        rintro e wq28_12 ⟨rfl, bkq28_12⟩
        have hBn := below_next hBk bkq28_12
        clear hBk bkq28_12
        have hBk := hBn
        clear hBn
        try go_simp
        refine hK.out _ _ ?_ (fun hHeld => ?_)
        · (try dsimp only); exact hBk
        clear hK K
        (try simp only [Act.put, List.setIfInBounds_toArray, List.set_cons_zero, List.set_cons_succ])
        refine take_d (i := 12) (v := ?vq28_13) rfl (by rfl) (by kernel_rfl) (by kernel_rfl) (by kernel_rfl) (fun _ _ _ h => h) (Or.inl ⟨by rfl, ?hq28_13⟩) (by assumption) ?rq28_13
        case hq28_13 => (intro wS hSw; (try dsimp only at hSw); go_simp; try (with_reducible rfl))
        (try simp only [Act.put, List.setIfInBounds_toArray, List.set_cons_zero, List.set_cons_succ])
        refine take_d (i := 13) (v := ?vq28_14) rfl (by rfl) (by kernel_rfl) (by kernel_rfl) (by kernel_rfl) (fun _ _ _ h => h) (Or.inl ⟨by rfl, ?hq28_14⟩) (by assumption) ?rq28_14
        case hq28_14 => (intro wS hSw; (try dsimp only at hSw); go_simp; try (with_reducible rfl))
        (try simp only [Act.put, List.setIfInBounds_toArray, List.set_cons_zero, List.set_cons_succ])
        refine take_d (i := 14) (v := ?vq28_15) rfl (by rfl) (by kernel_rfl) (by kernel_rfl) (by kernel_rfl) (fun _ _ _ h => h) (Or.inl ⟨by rfl, ?hq28_15⟩) (by assumption) ?rq28_15
        case hq28_15 => (intro wS hSw; (try dsimp only at hSw); have hcq0 := cn hSw JA0; have hcq1 := cn hSw JA1; go_simp; try (with_reducible rfl))
        (try simp only [Act.put, List.setIfInBounds_toArray, List.set_cons_zero, List.set_cons_succ])
        refine take_d (i := 17) (v := ?vq28_16) rfl (by rfl) (by kernel_rfl) (by kernel_rfl) (by kernel_rfl) (fun _ _ _ h => h) (Or.inl ⟨by rfl, ?hq28_16⟩) (by assumption) ?rq28_16
        case hq28_16 => (intro wS hSw; (try dsimp only at hSw); go_simp; try (with_reducible rfl))
        (try simp only [Act.put, List.setIfInBounds_toArray, List.set_cons_zero, List.set_cons_succ])
        refine take_d (i := 18) (v := ?vq28_17) rfl (by rfl) (by kernel_rfl) (by kernel_rfl) (by kernel_rfl) (fun _ _ _ h => h) (Or.inl ⟨by rfl, ?hq28_17⟩) (by assumption) ?rq28_17
        case hq28_17 => (intro wS hSw; (try dsimp only at hSw); have hcq0 := cn hSw JA0; have hcq1 := cn hSw JA1; go_simp; try (with_reducible rfl))
        (try simp only [Act.put, List.setIfInBounds_toArray, List.set_cons_zero, List.set_cons_succ])
        refine take_d (i := 19) (v := ?vq28_18) rfl (by rfl) (by kernel_rfl) (by kernel_rfl) (by kernel_rfl) (fun _ _ _ h => h) (Or.inl ⟨by rfl, ?hq28_18⟩) (by assumption) ?rq28_18
        case hq28_18 => (intro wS hSw; (try dsimp only at hSw); go_simp; try (with_reducible rfl))
        (try simp only [Act.put, List.setIfInBounds_toArray, List.set_cons_zero, List.set_cons_succ])
        refine wpAnyH_ready (rs := [15]) (by kernel_rfl) (by simp) ?_
        refine AllReadyH.cons rfl (fun K hK => ?_) AllReadyH.nil
        go_simp
        go_at_call 49
        refine (FR.out _).mono ?_
        rintro e wq28_19 ⟨rfl, bkq28_19⟩
        have hBn := below_next hBk bkq28_19
        clear hBk bkq28_19
        have hBk := hBn
        clear hBn
        try go_simp
        refine hK.out _ _ ?_ (fun hHeld => ?_)
        · (try dsimp only); exact hBk
        clear hK K
        (try simp only [Act.put, List.setIfInBounds_toArray, List.set_cons_zero, List.set_cons_succ])
        refine take_d (i := 16) (v := ?vq28_20) rfl (by rfl) (by kernel_rfl) (by kernel_rfl) (by kernel_rfl) (fun _ _ _ h => h) (Or.inl ⟨by rfl, ?hq28_20⟩) (by assumption) ?rq28_20
        case hq28_20 => (intro wS hSw; (try dsimp only at hSw); go_simp; try (with_reducible rfl))
        (try simp only [Act.put, List.setIfInBounds_toArray, List.set_cons_zero, List.set_cons_succ])
        refine take_d (i := 20) (v := ?vq28_21) rfl (by rfl) (by kernel_rfl) (by kernel_rfl) (by kernel_rfl) (fun _ _ _ h => h) (Or.inl ⟨by rfl, ?hq28_21⟩) (by assumption) ?rq28_21
        case hq28_21 => (intro wS hSw; (try dsimp only at hSw); go_simp; try (with_reducible rfl))
        (try simp only [Act.put, List.setIfInBounds_toArray, List.set_cons_zero, List.set_cons_succ])
        refine take_d (i := 21) (v := ?vq28_22) rfl (by rfl) (by kernel_rfl) (by kernel_rfl) (by kernel_rfl) (fun _ _ _ h => h) (Or.inl ⟨by rfl, ?hq28_22⟩) (by assumption) ?rq28_22
        case hq28_22 => (intro wS hSw; (try dsimp only at hSw); go_simp; try (with_reducible rfl))
        (try simp only [Act.put, List.setIfInBounds_toArray, List.set_cons_zero, List.set_cons_succ])
        refine take_d (i := 22) (v := ?vq28_23) rfl (by rfl) (by kernel_rfl) (by kernel_rfl) (by kernel_rfl) (fun _ _ _ h => h) (Or.inl ⟨by rfl, ?hq28_23⟩) (by assumption) ?rq28_23
        case hq28_23 => (intro wS hSw; (try dsimp only at hSw); go_simp; try (with_reducible rfl))
        (try simp only [Act.put, List.setIfInBounds_toArray, List.set_cons_zero, List.set_cons_succ])
        refine wpAnyH_done (by kernel_rfl) ?_ _
        clear JA0 JA1 JAl JB0 JB1 JBl JC0 JC1 JCl JJ0 JJ1 JJl JM0 JM1 JMl lB
        generalize wq28_19 = w20 at hBk ⊢
        replace JA := JA.below hBk
        replace JB := JB.below hBk
        replace JC := JC.below hBk
        replace JJ := JJ.below hBk
        replace JM := JM.below hBk
        replace B := below_next B hBk
        clear hBk
        go_wp2
        go_ret
        exact ⟨rfl, B⟩
  · skip
    clear mA mB
    have hNo : ca = true → cb = false := fun h => by
      cases hh : cb
      · rfl
      · exact absurd (cM.out h hh).1 (by decide)
    replace hNo := hid hNo
    clear cM
    have JA0 := JA.2.1
    have JA1 := JA.2.2
    have JAl := JA.1
    have JB0 := JB.2.1
    have JB1 := JB.2.2
    have JBl := JB.1
    have JC0 := JC.2.1
    have JC1 := JC.2.2
    have JCl := JC.1
    have JJ0 := JJ.2.1
    have JJ1 := JJ.2.2
    have JJl := JJ.1
    have lB := B.size
    go_wp2_with fail
    clear JA0 JA1 JAl JB0 JB1 JBl JC0 JC1 JCl JJ0 JJ1 JJl lB
    have JM : TC (w13.alloc (.cells #[.int .u64 (ub t0.1), .int .u64 (ub t0.2)] 24)) w13.heap.size t0 := TC.new rfl
    replace JA := JA.alloc (.cells #[.int .u64 (ub t0.1), .int .u64 (ub t0.2)] 24)
    replace JB := JB.alloc (.cells #[.int .u64 (ub t0.1), .int .u64 (ub t0.2)] 24)
    replace JC := JC.alloc (.cells #[.int .u64 (ub t0.1), .int .u64 (ub t0.2)] 24)
    replace JJ := JJ.alloc (.cells #[.int .u64 (ub t0.1), .int .u64 (ub t0.2)] 24)
    replace B := Below.alloc B B.size (.cells #[.int .u64 (ub t0.1), .int .u64 (ub t0.2)] 24)
    generalize w13.alloc (.cells #[.int .u64 (ub t0.1), .int .u64 (ub t0.2)] 24) = w14 at *
    generalize w13.heap.size = g2 at *
    have JA0 := JA.2.1
    have JA1 := JA.2.2
    have JAl := JA.1
    have JB0 := JB.2.1
    have JB1 := JB.2.2
    have JBl := JB.1
    have JC0 := JC.2.1
    have JC1 := JC.2.2
    have JCl := JC.1
    have JJ0 := JJ.2.1
    have JJ1 := JJ.2.2
    have JJl := JJ.1
    have JM0 := JM.2.1
    have JM1 := JM.2.2
    have JMl := JM.1
    have lB := B.size
    go_wp2_with fail
    refine (Ica.out _).mono ?_
    rintro e w15 ⟨rfl, z⟩
    clear JA0 JA1 JAl JB0 JB1 JBl JC0 JC1 JCl JJ0 JJ1 JJl JM0 JM1 JMl lB
    replace JA := JA.below z
    replace JB := JB.below z
    replace JC := JC.below z
    replace JJ := JJ.below z
    replace JM := JM.below z
    replace B := below_next B z
    clear z
    cases ca
    · skip
      have hce := hce.out
      have JA0 := JA.2.1
      have JA1 := JA.2.2
      have JAl := JA.1
      have JB0 := JB.2.1
      have JB1 := JB.2.2
      have JBl := JB.1
      have JC0 := JC.2.1
      have JC1 := JC.2.2
      have JCl := JC.1
      have JJ0 := JJ.2.1
      have JJ1 := JJ.2.2
      have JJl := JJ.1
      have JM0 := JM.2.1
      have JM1 := JM.2.2
      have JMl := JM.1
      have lB := B.size
      go_wp2_with fail
      refine wp_region_held_drew (S := (fun w' : World => Below w15.heap.size w15 w')) (by kernel_rfl) ?_ (fun hHeld => ?_)
      · (try dsimp only); first | (with_reducible exact below_dr _) | (with_reducible exact Below.refl _ _) | exact below_dr _
      have hBk := below_dr w15
      refine take_d (i := 0) (v := ?vq29_1) rfl (by rfl) (by kernel_rfl) (by kernel_rfl) (by kernel_rfl) (fun _ _ _ h => h) (Or.inl ⟨by rfl, ?hq29_1⟩) (by assumption) ?rq29_1
      case hq29_1 => (intro wS hSw; (try dsimp only at hSw); have hcq0 := cn hSw JA0; have hcq1 := cn hSw JA1; go_simp; try (with_reducible rfl))
      (try simp only [Act.put, List.setIfInBounds_toArray, List.set_cons_zero, List.set_cons_succ])
      refine take_d (i := 1) (v := ?vq29_2) rfl (by rfl) (by kernel_rfl) (by kernel_rfl) (by kernel_rfl) (fun _ _ _ h => h) (Or.inl ⟨by rfl, ?hq29_2⟩) (by assumption) ?rq29_2
      case hq29_2 => (intro wS hSw; (try dsimp only at hSw); go_simp; try (with_reducible rfl))
      (try simp only [Act.put, List.setIfInBounds_toArray, List.set_cons_zero, List.set_cons_succ])
      refine take_d (i := 2) (v := ?vq29_3) rfl (by rfl) (by kernel_rfl) (by kernel_rfl) (by kernel_rfl) (fun _ _ _ h => h) (Or.inl ⟨by rfl, ?hq29_3⟩) (by assumption) ?rq29_3
      case hq29_3 => (intro wS hSw; (try dsimp only at hSw); have hcq0 := cn hSw JA0; have hcq1 := cn hSw JA1; go_simp; try (with_reducible rfl))
      (try simp only [Act.put, List.setIfInBounds_toArray, List.set_cons_zero, List.set_cons_succ])
      refine wpAnyH_ready (rs := [3]) (by kernel_rfl) (by simp) ?_
      refine AllReadyH.cons rfl (fun K hK => ?_) AllReadyH.nil
      go_simp
      go_at_call 46
      refine (HL.out _).mono ?_
      rintro e wq29_4 ⟨rfl, bkq29_4⟩
      have hBn := below_next hBk bkq29_4
      clear hBk bkq29_4
      have hBk := hBn
      clear hBn
      try go_simp
      refine hK.out _ _ ?_ (fun hHeld => ?_)
      · (try dsimp only); exact hBk
      clear hK K
      (try simp only [Act.put, List.setIfInBounds_toArray, List.set_cons_zero, List.set_cons_succ])
      refine take_d (i := 4) (v := ?vq29_5) rfl (by rfl) (by kernel_rfl) (by kernel_rfl) (by kernel_rfl) (fun _ _ _ h => h) (Or.inl ⟨by rfl, ?hq29_5⟩) (by assumption) ?rq29_5
      case hq29_5 => (intro wS hSw; (try dsimp only at hSw); go_simp; try (with_reducible rfl))
      (try simp only [Act.put, List.setIfInBounds_toArray, List.set_cons_zero, List.set_cons_succ])
      refine take_d (i := 5) (v := ?vq29_6) rfl (by rfl) (by kernel_rfl) (by kernel_rfl) (by kernel_rfl) (fun _ _ _ h => h) (Or.inl ⟨by rfl, ?hq29_6⟩) (by assumption) ?rq29_6
      case hq29_6 => (intro wS hSw; (try dsimp only at hSw); have hcq0 := cn hSw JA0; have hcq1 := cn hSw JA1; go_simp; try (with_reducible rfl))
      (try simp only [Act.put, List.setIfInBounds_toArray, List.set_cons_zero, List.set_cons_succ])
      refine take_d (i := 6) (v := ?vq29_7) rfl (by rfl) (by kernel_rfl) (by kernel_rfl) (by kernel_rfl) (fun _ _ _ h => h) (Or.inl ⟨by rfl, ?hq29_7⟩) (by assumption) ?rq29_7
      case hq29_7 => (intro wS hSw; (try dsimp only at hSw); go_simp; try (with_reducible rfl))
      (try simp only [Act.put, List.setIfInBounds_toArray, List.set_cons_zero, List.set_cons_succ])
      refine take_d (i := 7) (v := ?vq29_8) rfl (by rfl) (by kernel_rfl) (by kernel_rfl) (by kernel_rfl) (fun _ _ _ h => h) (Or.inl ⟨by rfl, ?hq29_8⟩) (by assumption) ?rq29_8
      case hq29_8 => (intro wS hSw; (try dsimp only at hSw); have hcq0 := cn hSw JA0; have hcq1 := cn hSw JA1; go_simp; try (with_reducible rfl))
      (try simp only [Act.put, List.setIfInBounds_toArray, List.set_cons_zero, List.set_cons_succ])
      refine take_d (i := 8) (v := ?vq29_9) rfl (by rfl) (by kernel_rfl) (by kernel_rfl) (by kernel_rfl) (fun _ _ _ h => h) (Or.inl ⟨by rfl, ?hq29_9⟩) (by assumption) ?rq29_9
      case hq29_9 => (intro wS hSw; (try dsimp only at hSw); go_simp; try (with_reducible rfl))
      (try simp only [Act.put, List.setIfInBounds_toArray, List.set_cons_zero, List.set_cons_succ])
      refine take_d (i := 9) (v := ?vq29_10) rfl (by rfl) (by kernel_rfl) (by kernel_rfl) (by kernel_rfl) (fun _ _ _ h => h) (Or.inl ⟨by rfl, ?hq29_10⟩) (by assumption) ?rq29_10
      case hq29_10 => (intro wS hSw; (try dsimp only at hSw); have hcq0 := cn hSw JA0; have hcq1 := cn hSw JA1; go_simp; try (with_reducible rfl))
      (try simp only [Act.put, List.setIfInBounds_toArray, List.set_cons_zero, List.set_cons_succ])
      refine take_d (i := 10) (v := ?vq29_11) rfl (by rfl) (by kernel_rfl) (by kernel_rfl) (by kernel_rfl) (fun _ _ _ h => h) (Or.inl ⟨by rfl, ?hq29_11⟩) (by assumption) ?rq29_11
      case hq29_11 => (intro wS hSw; (try dsimp only at hSw); go_simp; try (with_reducible rfl))
      (try simp only [Act.put, List.setIfInBounds_toArray, List.set_cons_zero, List.set_cons_succ])
      refine wpAnyH_ready (rs := [11]) (by kernel_rfl) (by simp) ?_
      refine AllReadyH.cons rfl (fun K hK => ?_) AllReadyH.nil
      go_simp
      go_at_call 46
      refine (HT.out _).mono ?_
      rintro e wq29_12 ⟨rfl, bkq29_12⟩
      have hBn := below_next hBk bkq29_12
      clear hBk bkq29_12
      have hBk := hBn
      clear hBn
      try go_simp
      refine hK.out _ _ ?_ (fun hHeld => ?_)
      · (try dsimp only); exact hBk
      clear hK K
      (try simp only [Act.put, List.setIfInBounds_toArray, List.set_cons_zero, List.set_cons_succ])
      refine take_d (i := 12) (v := ?vq29_13) rfl (by rfl) (by kernel_rfl) (by kernel_rfl) (by kernel_rfl) (fun _ _ _ h => h) (Or.inl ⟨by rfl, ?hq29_13⟩) (by assumption) ?rq29_13
      case hq29_13 => (intro wS hSw; (try dsimp only at hSw); go_simp; try (with_reducible rfl))
      (try simp only [Act.put, List.setIfInBounds_toArray, List.set_cons_zero, List.set_cons_succ])
      refine take_d (i := 13) (v := ?vq29_14) rfl (by rfl) (by kernel_rfl) (by kernel_rfl) (by kernel_rfl) (fun _ _ _ h => h) (Or.inl ⟨by rfl, ?hq29_14⟩) (by assumption) ?rq29_14
      case hq29_14 => (intro wS hSw; (try dsimp only at hSw); go_simp; try (with_reducible rfl))
      (try simp only [Act.put, List.setIfInBounds_toArray, List.set_cons_zero, List.set_cons_succ])
      refine take_d (i := 14) (v := ?vq29_15) rfl (by rfl) (by kernel_rfl) (by kernel_rfl) (by kernel_rfl) (fun _ _ _ h => h) (Or.inl ⟨by rfl, ?hq29_15⟩) (by assumption) ?rq29_15
      case hq29_15 => (intro wS hSw; (try dsimp only at hSw); have hcq0 := cn hSw JA0; have hcq1 := cn hSw JA1; go_simp; try (with_reducible rfl))
      (try simp only [Act.put, List.setIfInBounds_toArray, List.set_cons_zero, List.set_cons_succ])
      refine take_d (i := 17) (v := ?vq29_16) rfl (by rfl) (by kernel_rfl) (by kernel_rfl) (by kernel_rfl) (fun _ _ _ h => h) (Or.inl ⟨by rfl, ?hq29_16⟩) (by assumption) ?rq29_16
      case hq29_16 => (intro wS hSw; (try dsimp only at hSw); go_simp; try (with_reducible rfl))
      (try simp only [Act.put, List.setIfInBounds_toArray, List.set_cons_zero, List.set_cons_succ])
      refine take_d (i := 18) (v := ?vq29_17) rfl (by rfl) (by kernel_rfl) (by kernel_rfl) (by kernel_rfl) (fun _ _ _ h => h) (Or.inl ⟨by rfl, ?hq29_17⟩) (by assumption) ?rq29_17
      case hq29_17 => (intro wS hSw; (try dsimp only at hSw); have hcq0 := cn hSw JA0; have hcq1 := cn hSw JA1; go_simp; try (with_reducible rfl))
      (try simp only [Act.put, List.setIfInBounds_toArray, List.set_cons_zero, List.set_cons_succ])
      refine take_d (i := 19) (v := ?vq29_18) rfl (by rfl) (by kernel_rfl) (by kernel_rfl) (by kernel_rfl) (fun _ _ _ h => h) (Or.inl ⟨by rfl, ?hq29_18⟩) (by assumption) ?rq29_18
      case hq29_18 => (intro wS hSw; (try dsimp only at hSw); go_simp; try (with_reducible rfl))
      (try simp only [Act.put, List.setIfInBounds_toArray, List.set_cons_zero, List.set_cons_succ])
      refine wpAnyH_ready (rs := [15]) (by kernel_rfl) (by simp) ?_
      refine AllReadyH.cons rfl (fun K hK => ?_) AllReadyH.nil
      go_simp
      go_at_call 49
      refine (FR.out _).mono ?_
      rintro e wq29_19 ⟨rfl, bkq29_19⟩
      have hBn := below_next hBk bkq29_19
      clear hBk bkq29_19
      have hBk := hBn
      clear hBn
      try go_simp
      refine hK.out _ _ ?_ (fun hHeld => ?_)
      · (try dsimp only); exact hBk
      clear hK K
      (try simp only [Act.put, List.setIfInBounds_toArray, List.set_cons_zero, List.set_cons_succ])
      refine take_d (i := 16) (v := ?vq29_20) rfl (by rfl) (by kernel_rfl) (by kernel_rfl) (by kernel_rfl) (fun _ _ _ h => h) (Or.inl ⟨by rfl, ?hq29_20⟩) (by assumption) ?rq29_20
      case hq29_20 => (intro wS hSw; (try dsimp only at hSw); go_simp; try (with_reducible rfl))
      (try simp only [Act.put, List.setIfInBounds_toArray, List.set_cons_zero, List.set_cons_succ])
      refine take_d (i := 20) (v := ?vq29_21) rfl (by rfl) (by kernel_rfl) (by kernel_rfl) (by kernel_rfl) (fun _ _ _ h => h) (Or.inl ⟨by rfl, ?hq29_21⟩) (by assumption) ?rq29_21
      case hq29_21 => (intro wS hSw; (try dsimp only at hSw); go_simp; try (with_reducible rfl))
      (try simp only [Act.put, List.setIfInBounds_toArray, List.set_cons_zero, List.set_cons_succ])
      refine take_d (i := 21) (v := ?vq29_22) rfl (by rfl) (by kernel_rfl) (by kernel_rfl) (by kernel_rfl) (fun _ _ _ h => h) (Or.inl ⟨by rfl, ?hq29_22⟩) (by assumption) ?rq29_22
      case hq29_22 => (intro wS hSw; (try dsimp only at hSw); go_simp; try (with_reducible rfl))
      (try simp only [Act.put, List.setIfInBounds_toArray, List.set_cons_zero, List.set_cons_succ])
      refine take_d (i := 22) (v := ?vq29_23) rfl (by rfl) (by kernel_rfl) (by kernel_rfl) (by kernel_rfl) (fun _ _ _ h => h) (Or.inl ⟨by rfl, ?hq29_23⟩) (by assumption) ?rq29_23
      case hq29_23 => (intro wS hSw; (try dsimp only at hSw); go_simp; try (with_reducible rfl))
      (try simp only [Act.put, List.setIfInBounds_toArray, List.set_cons_zero, List.set_cons_succ])
      refine wpAnyH_done (by kernel_rfl) ?_ _
      clear JA0 JA1 JAl JB0 JB1 JBl JC0 JC1 JCl JJ0 JJ1 JJl JM0 JM1 JMl lB
      generalize wq29_19 = w16 at hBk ⊢
      replace JA := JA.below hBk
      replace JB := JB.below hBk
      replace JC := JC.below hBk
      replace JJ := JJ.below hBk
      replace JM := JM.below hBk
      replace B := below_next B hBk
      clear hBk
      go_wp2
      go_ret
      exact ⟨rfl, B⟩
    · skip
      obtain rfl : cb = false := hNo.out (by trivial)
      have JA0 := JA.2.1
      have JA1 := JA.2.2
      have JAl := JA.1
      have JB0 := JB.2.1
      have JB1 := JB.2.2
      have JBl := JB.1
      have JC0 := JC.2.1
      have JC1 := JC.2.2
      have JCl := JC.1
      have JJ0 := JJ.2.1
      have JJ1 := JJ.2.2
      have JJl := JJ.1
      have JM0 := JM.2.1
      have JM1 := JM.2.2
      have JMl := JM.1
      have lB := B.size
      go_wp2_with fail
      refine (Icb.out _).mono ?_
      rintro e w16 ⟨rfl, z⟩
      clear JA0 JA1 JAl JB0 JB1 JBl JC0 JC1 JCl JJ0 JJ1 JJl JM0 JM1 JMl lB
      replace JA := JA.below z
      replace JB := JB.below z
      replace JC := JC.below z
      replace JJ := JJ.below z
      replace JM := JM.below z
      replace B := below_next B z
      clear z
      have hce := hce.out
      have JA0 := JA.2.1
      have JA1 := JA.2.2
      have JAl := JA.1
      have JB0 := JB.2.1
      have JB1 := JB.2.2
      have JBl := JB.1
      have JC0 := JC.2.1
      have JC1 := JC.2.2
      have JCl := JC.1
      have JJ0 := JJ.2.1
      have JJ1 := JJ.2.2
      have JJl := JJ.1
      have JM0 := JM.2.1
      have JM1 := JM.2.2
      have JMl := JM.1
      have lB := B.size
      go_wp2_with fail
      refine wp_region_held_drew (S := (fun w' : World => Below w16.heap.size w16 w')) (by kernel_rfl) ?_ (fun hHeld => ?_)
      · (try dsimp only); first | (with_reducible exact below_dr _) | (with_reducible exact Below.refl _ _) | exact below_dr _
      have hBk := below_dr w16
      refine take_d (i := 0) (v := ?vq30_1) rfl (by rfl) (by kernel_rfl) (by kernel_rfl) (by kernel_rfl) (fun _ _ _ h => h) (Or.inl ⟨by rfl, ?hq30_1⟩) (by assumption) ?rq30_1
      case hq30_1 => (intro wS hSw; (try dsimp only at hSw); have hcq0 := cn hSw JA0; have hcq1 := cn hSw JA1; go_simp; try (with_reducible rfl))
      (try simp only [Act.put, List.setIfInBounds_toArray, List.set_cons_zero, List.set_cons_succ])
      refine take_d (i := 1) (v := ?vq30_2) rfl (by rfl) (by kernel_rfl) (by kernel_rfl) (by kernel_rfl) (fun _ _ _ h => h) (Or.inl ⟨by rfl, ?hq30_2⟩) (by assumption) ?rq30_2
      case hq30_2 => (intro wS hSw; (try dsimp only at hSw); go_simp; try (with_reducible rfl))
      (try simp only [Act.put, List.setIfInBounds_toArray, List.set_cons_zero, List.set_cons_succ])
      refine take_d (i := 2) (v := ?vq30_3) rfl (by rfl) (by kernel_rfl) (by kernel_rfl) (by kernel_rfl) (fun _ _ _ h => h) (Or.inl ⟨by rfl, ?hq30_3⟩) (by assumption) ?rq30_3
      case hq30_3 => (intro wS hSw; (try dsimp only at hSw); have hcq0 := cn hSw JA0; have hcq1 := cn hSw JA1; go_simp; try (with_reducible rfl))
      (try simp only [Act.put, List.setIfInBounds_toArray, List.set_cons_zero, List.set_cons_succ])
      refine wpAnyH_ready (rs := [3]) (by kernel_rfl) (by simp) ?_
      refine AllReadyH.cons rfl (fun K hK => ?_) AllReadyH.nil
      go_simp
      go_at_call 46
      refine (HL.out _).mono ?_
      rintro e wq30_4 ⟨rfl, bkq30_4⟩
      have hBn := below_next hBk bkq30_4
      clear hBk bkq30_4
      have hBk := hBn
      clear hBn
      try go_simp
      refine hK.out _ _ ?_ (fun hHeld => ?_)
      · (try dsimp only); exact hBk
      clear hK K
      (try simp only [Act.put, List.setIfInBounds_toArray, List.set_cons_zero, List.set_cons_succ])
      refine take_d (i := 4) (v := ?vq30_5) rfl (by rfl) (by kernel_rfl) (by kernel_rfl) (by kernel_rfl) (fun _ _ _ h => h) (Or.inl ⟨by rfl, ?hq30_5⟩) (by assumption) ?rq30_5
      case hq30_5 => (intro wS hSw; (try dsimp only at hSw); go_simp; try (with_reducible rfl))
      (try simp only [Act.put, List.setIfInBounds_toArray, List.set_cons_zero, List.set_cons_succ])
      refine take_d (i := 5) (v := ?vq30_6) rfl (by rfl) (by kernel_rfl) (by kernel_rfl) (by kernel_rfl) (fun _ _ _ h => h) (Or.inl ⟨by rfl, ?hq30_6⟩) (by assumption) ?rq30_6
      case hq30_6 => (intro wS hSw; (try dsimp only at hSw); have hcq0 := cn hSw JA0; have hcq1 := cn hSw JA1; go_simp; try (with_reducible rfl))
      (try simp only [Act.put, List.setIfInBounds_toArray, List.set_cons_zero, List.set_cons_succ])
      refine take_d (i := 6) (v := ?vq30_7) rfl (by rfl) (by kernel_rfl) (by kernel_rfl) (by kernel_rfl) (fun _ _ _ h => h) (Or.inl ⟨by rfl, ?hq30_7⟩) (by assumption) ?rq30_7
      case hq30_7 => (intro wS hSw; (try dsimp only at hSw); go_simp; try (with_reducible rfl))
      (try simp only [Act.put, List.setIfInBounds_toArray, List.set_cons_zero, List.set_cons_succ])
      refine take_d (i := 7) (v := ?vq30_8) rfl (by rfl) (by kernel_rfl) (by kernel_rfl) (by kernel_rfl) (fun _ _ _ h => h) (Or.inl ⟨by rfl, ?hq30_8⟩) (by assumption) ?rq30_8
      case hq30_8 => (intro wS hSw; (try dsimp only at hSw); have hcq0 := cn hSw JA0; have hcq1 := cn hSw JA1; go_simp; try (with_reducible rfl))
      (try simp only [Act.put, List.setIfInBounds_toArray, List.set_cons_zero, List.set_cons_succ])
      refine take_d (i := 8) (v := ?vq30_9) rfl (by rfl) (by kernel_rfl) (by kernel_rfl) (by kernel_rfl) (fun _ _ _ h => h) (Or.inl ⟨by rfl, ?hq30_9⟩) (by assumption) ?rq30_9
      case hq30_9 => (intro wS hSw; (try dsimp only at hSw); go_simp; try (with_reducible rfl))
      (try simp only [Act.put, List.setIfInBounds_toArray, List.set_cons_zero, List.set_cons_succ])
      refine take_d (i := 9) (v := ?vq30_10) rfl (by rfl) (by kernel_rfl) (by kernel_rfl) (by kernel_rfl) (fun _ _ _ h => h) (Or.inl ⟨by rfl, ?hq30_10⟩) (by assumption) ?rq30_10
      case hq30_10 => (intro wS hSw; (try dsimp only at hSw); have hcq0 := cn hSw JA0; have hcq1 := cn hSw JA1; go_simp; try (with_reducible rfl))
      (try simp only [Act.put, List.setIfInBounds_toArray, List.set_cons_zero, List.set_cons_succ])
      refine take_d (i := 10) (v := ?vq30_11) rfl (by rfl) (by kernel_rfl) (by kernel_rfl) (by kernel_rfl) (fun _ _ _ h => h) (Or.inl ⟨by rfl, ?hq30_11⟩) (by assumption) ?rq30_11
      case hq30_11 => (intro wS hSw; (try dsimp only at hSw); go_simp; try (with_reducible rfl))
      (try simp only [Act.put, List.setIfInBounds_toArray, List.set_cons_zero, List.set_cons_succ])
      refine wpAnyH_ready (rs := [11]) (by kernel_rfl) (by simp) ?_
      refine AllReadyH.cons rfl (fun K hK => ?_) AllReadyH.nil
      go_simp
      go_at_call 46
      refine (HT.out _).mono ?_
      rintro e wq30_12 ⟨rfl, bkq30_12⟩
      have hBn := below_next hBk bkq30_12
      clear hBk bkq30_12
      have hBk := hBn
      clear hBn
      try go_simp
      refine hK.out _ _ ?_ (fun hHeld => ?_)
      · (try dsimp only); exact hBk
      clear hK K
      (try simp only [Act.put, List.setIfInBounds_toArray, List.set_cons_zero, List.set_cons_succ])
      refine take_d (i := 12) (v := ?vq30_13) rfl (by rfl) (by kernel_rfl) (by kernel_rfl) (by kernel_rfl) (fun _ _ _ h => h) (Or.inl ⟨by rfl, ?hq30_13⟩) (by assumption) ?rq30_13
      case hq30_13 => (intro wS hSw; (try dsimp only at hSw); go_simp; try (with_reducible rfl))
      (try simp only [Act.put, List.setIfInBounds_toArray, List.set_cons_zero, List.set_cons_succ])
      refine take_d (i := 13) (v := ?vq30_14) rfl (by rfl) (by kernel_rfl) (by kernel_rfl) (by kernel_rfl) (fun _ _ _ h => h) (Or.inl ⟨by rfl, ?hq30_14⟩) (by assumption) ?rq30_14
      case hq30_14 => (intro wS hSw; (try dsimp only at hSw); go_simp; try (with_reducible rfl))
      (try simp only [Act.put, List.setIfInBounds_toArray, List.set_cons_zero, List.set_cons_succ])
      refine take_d (i := 14) (v := ?vq30_15) rfl (by rfl) (by kernel_rfl) (by kernel_rfl) (by kernel_rfl) (fun _ _ _ h => h) (Or.inl ⟨by rfl, ?hq30_15⟩) (by assumption) ?rq30_15
      case hq30_15 => (intro wS hSw; (try dsimp only at hSw); have hcq0 := cn hSw JA0; have hcq1 := cn hSw JA1; go_simp; try (with_reducible rfl))
      (try simp only [Act.put, List.setIfInBounds_toArray, List.set_cons_zero, List.set_cons_succ])
      refine take_d (i := 17) (v := ?vq30_16) rfl (by rfl) (by kernel_rfl) (by kernel_rfl) (by kernel_rfl) (fun _ _ _ h => h) (Or.inl ⟨by rfl, ?hq30_16⟩) (by assumption) ?rq30_16
      case hq30_16 => (intro wS hSw; (try dsimp only at hSw); go_simp; try (with_reducible rfl))
      (try simp only [Act.put, List.setIfInBounds_toArray, List.set_cons_zero, List.set_cons_succ])
      refine take_d (i := 18) (v := ?vq30_17) rfl (by rfl) (by kernel_rfl) (by kernel_rfl) (by kernel_rfl) (fun _ _ _ h => h) (Or.inl ⟨by rfl, ?hq30_17⟩) (by assumption) ?rq30_17
      case hq30_17 => (intro wS hSw; (try dsimp only at hSw); have hcq0 := cn hSw JA0; have hcq1 := cn hSw JA1; go_simp; try (with_reducible rfl))
      (try simp only [Act.put, List.setIfInBounds_toArray, List.set_cons_zero, List.set_cons_succ])
      refine take_d (i := 19) (v := ?vq30_18) rfl (by rfl) (by kernel_rfl) (by kernel_rfl) (by kernel_rfl) (fun _ _ _ h => h) (Or.inl ⟨by rfl, ?hq30_18⟩) (by assumption) ?rq30_18
      case hq30_18 => (intro wS hSw; (try dsimp only at hSw); go_simp; try (with_reducible rfl))
      (try simp only [Act.put, List.setIfInBounds_toArray, List.set_cons_zero, List.set_cons_succ])
      refine wpAnyH_ready (rs := [15]) (by kernel_rfl) (by simp) ?_
      refine AllReadyH.cons rfl (fun K hK => ?_) AllReadyH.nil
      go_simp
      go_at_call 49
      refine (FR.out _).mono ?_
      rintro e wq30_19 ⟨rfl, bkq30_19⟩
      have hBn := below_next hBk bkq30_19
      clear hBk bkq30_19
      have hBk := hBn
      clear hBn
      try go_simp
      refine hK.out _ _ ?_ (fun hHeld => ?_)
      · (try dsimp only); exact hBk
      clear hK K
      (try simp only [Act.put, List.setIfInBounds_toArray, List.set_cons_zero, List.set_cons_succ])
      refine take_d (i := 16) (v := ?vq30_20) rfl (by rfl) (by kernel_rfl) (by kernel_rfl) (by kernel_rfl) (fun _ _ _ h => h) (Or.inl ⟨by rfl, ?hq30_20⟩) (by assumption) ?rq30_20
      case hq30_20 => (intro wS hSw; (try dsimp only at hSw); go_simp; try (with_reducible rfl))
      (try simp only [Act.put, List.setIfInBounds_toArray, List.set_cons_zero, List.set_cons_succ])
      refine take_d (i := 20) (v := ?vq30_21) rfl (by rfl) (by kernel_rfl) (by kernel_rfl) (by kernel_rfl) (fun _ _ _ h => h) (Or.inl ⟨by rfl, ?hq30_21⟩) (by assumption) ?rq30_21
      case hq30_21 => (intro wS hSw; (try dsimp only at hSw); go_simp; try (with_reducible rfl))
      (try simp only [Act.put, List.setIfInBounds_toArray, List.set_cons_zero, List.set_cons_succ])
      refine take_d (i := 21) (v := ?vq30_22) rfl (by rfl) (by kernel_rfl) (by kernel_rfl) (by kernel_rfl) (fun _ _ _ h => h) (Or.inl ⟨by rfl, ?hq30_22⟩) (by assumption) ?rq30_22
      case hq30_22 => (intro wS hSw; (try dsimp only at hSw); go_simp; try (with_reducible rfl))
      (try simp only [Act.put, List.setIfInBounds_toArray, List.set_cons_zero, List.set_cons_succ])
      refine take_d (i := 22) (v := ?vq30_23) rfl (by rfl) (by kernel_rfl) (by kernel_rfl) (by kernel_rfl) (fun _ _ _ h => h) (Or.inl ⟨by rfl, ?hq30_23⟩) (by assumption) ?rq30_23
      case hq30_23 => (intro wS hSw; (try dsimp only at hSw); go_simp; try (with_reducible rfl))
      (try simp only [Act.put, List.setIfInBounds_toArray, List.set_cons_zero, List.set_cons_succ])
      refine wpAnyH_done (by kernel_rfl) ?_ _
      clear JA0 JA1 JAl JB0 JB1 JBl JC0 JC1 JCl JJ0 JJ1 JJl JM0 JM1 JMl lB
      generalize wq30_19 = w17 at hBk ⊢
      replace JA := JA.below hBk
      replace JB := JB.below hBk
      replace JC := JC.below hBk
      replace JJ := JJ.below hBk
      replace JM := JM.below hBk
      replace B := below_next B hBk
      clear hBk
      go_wp2
      go_ret
      exact ⟨rfl, B⟩
end Go.Proofs.Ytoanbjnhoggpjaa
