/-
  TnumOrder: the three may be: the walk, way by way.
-/
import Derived.Test.YtoanbjnhoggpjaaTnOa
namespace Go.Proofs.Ytoanbjnhoggpjaa
set_option linter.unusedSimpArgs false
set_option linter.unusedVariables false
open Go.ChangeShapes Go.WideShapes Go.ChangeAt Go.RowKit

set_option maxRecDepth 100000 in
set_option maxHeartbeats 8000000 in
theorem ord_p0 (a b c : Tn) (ha : tmay a = true) (hb : tmay b = true) (hc : tmay c = true) (hab : tin a b = false) (w : World) : Calls Try.prog 11 #[tv a, tv b, tv c] w fun e w' => e = .returned (.bool true) ∧ Below w.heap.size w w' := by
  have HAW := hid awake_true
  have O := ord_of a b c ha hb hc
  have Ma : ∀ W, Calls Try.prog 43 #[tv a] W fun e w' => e = .returned (.bool true) ∧ Below W.heap.size W w' := fun W => ha ▸ tMay_any a W
  have Mb : ∀ W, Calls Try.prog 43 #[tv b] W fun e w' => e = .returned (.bool true) ∧ Below W.heap.size W w' := fun W => hb ▸ tMay_any b W
  have Mc : ∀ W, Calls Try.prog 43 #[tv c] W fun e w' => e = .returned (.bool true) ∧ Below W.heap.size W w' := fun W => hc ▸ tMay_any c W
  have XJ : ∀ W, Calls Try.prog 45 #[tv a, tv b] W fun e w' => e = .returned (.tuple #[tv (joinT a b), .int .i64 0]) ∧ Below W.heap.size W w' := fun W => by have := tJoin_any a b W; rwa [show bothT a b (joinT a b) = joinT a b by unfold bothT; rw [ha, hb]; rfl, show bothE a b = 0 by unfold bothE; rw [ha, hb]; rfl] at this
  have XM : ∀ W, Calls Try.prog 44 #[tv a, tv b] W fun e w' => e = .returned (.tuple #[tv (if meetB a b then meetT a b else t0), .bool (meetB a b)]) ∧ Below W.heap.size W w' := fun W => tMeet_any a b W
  have AL : ∀ W, Calls Try.prog 50 #[] W fun e w' => e = .returned (tv allT) ∧ Below W.heap.size W w' := fun W => tAll_any W
  have Iaa : ∀ W, Calls Try.prog 48 #[tv a, tv a] W fun e w' => e = .returned (.bool true) ∧ Below W.heap.size W w' := fun W => O.aa ▸ tIn_any a a W
  have Ial : ∀ W, Calls Try.prog 48 #[tv a, tv allT] W fun e w' => e = .returned (.bool true) ∧ Below W.heap.size W w' := fun W => O.al ▸ tIn_any a allT W
  have Iab : ∀ W, Calls Try.prog 48 #[tv a, tv b] W fun e w' => e = .returned (.bool false) ∧ Below W.heap.size W w' := fun W => hab ▸ tIn_any a b W
  have Iac : ∀ W, Calls Try.prog 48 #[tv a, tv c] W fun e w' => e = .returned (.bool (tin a c)) ∧ Below W.heap.size W w' := fun W => tIn_any a c W
  have Iaj : ∀ W, Calls Try.prog 48 #[tv a, tv (joinT a b)] W fun e w' => e = .returned (.bool true) ∧ Below W.heap.size W w' := fun W => O.aj ▸ tIn_any a (joinT a b) W
  have Ibj : ∀ W, Calls Try.prog 48 #[tv b, tv (joinT a b)] W fun e w' => e = .returned (.bool true) ∧ Below W.heap.size W w' := fun W => O.bj ▸ tIn_any b (joinT a b) W
  have Ijc : ∀ W, Calls Try.prog 48 #[tv (joinT a b), tv c] W fun e w' => e = .returned (.bool (tin (joinT a b) c)) ∧ Below W.heap.size W w' := fun W => tIn_any (joinT a b) c W
  have Ima : ∀ W, Calls Try.prog 48 #[tv (meetT a b), tv a] W fun e w' => e = .returned (.bool (tin (meetT a b) a)) ∧ Below W.heap.size W w' := fun W => tIn_any (meetT a b) a W
  have Imb : ∀ W, Calls Try.prog 48 #[tv (meetT a b), tv b] W fun e w' => e = .returned (.bool (tin (meetT a b) b)) ∧ Below W.heap.size W w' := fun W => tIn_any (meetT a b) b W
  have Ica : ∀ W, Calls Try.prog 48 #[tv c, tv a] W fun e w' => e = .returned (.bool (tin c a)) ∧ Below W.heap.size W w' := fun W => tIn_any c a W
  have Icb : ∀ W, Calls Try.prog 48 #[tv c, tv b] W fun e w' => e = .returned (.bool (tin c b)) ∧ Below W.heap.size W w' := fun W => tIn_any c b W
  have Icm : ∀ W, Calls Try.prog 48 #[tv c, tv (meetT a b)] W fun e w' => e = .returned (.bool (tin c (meetT a b))) ∧ Below W.heap.size W w' := fun W => tIn_any c (meetT a b) W
  have HL : ∀ W, Calls Try.prog 46 #[tv a, .int .u64 (ub a.1)] W fun e w' => e = .returned (.bool true) ∧ Below W.heap.size W w' := fun W => has_low ha ▸ tHas_any a a.1 W
  have HT : ∀ W, Calls Try.prog 46 #[tv a, .int .u64 (ub (a.1 ||| a.2))] W fun e w' => e = .returned (.bool true) ∧ Below W.heap.size W w' := fun W => has_top ha ▸ tHas_any a (a.1 ||| a.2) W
  have FR : ∀ W, Calls Try.prog 49 #[tv a] W fun e w' => e = .returned (.int .i64 (cntU a.2 64 : Int)) ∧ Below W.heap.size W w' := fun W => by have := tFree_any a W; rwa [ha, if_pos rfl] at this
  have Ibc : ∀ W, Calls Try.prog 48 #[tv b, tv c] W fun e w' => e = .returned (.bool (tin b c)) ∧ Below W.heap.size W w' := fun W => tIn_any b c W
  have hce : (((cntU a.2 64 : Nat) : Int) == 0) = (a.2 == 0#64) := by
    have := cnt_zero a.2
    rw [Bool.eq_iff_iff, beq_iff_eq, beq_iff_eq, ← this]
    omega
  have tr := O.tr
  have jc := O.jc
  have mA := O.ma
  have mB := O.mb
  have cM := O.cm
  rw [hab] at tr
  clear O ha hb hc hab
  generalize joinT a b = J at *
  generalize tin a c = ac at *
  generalize tin J c = jcB at *
  generalize tin b c = bc at *
  generalize ((cntU a.2 64 : Nat) : Int) = N at *
  generalize meetT a b = M0 at *
  generalize meetB a b = mk at *
  generalize tin M0 a = ma at *
  generalize tin M0 b = mb at *
  generalize tin c M0 = cm at *
  generalize tin c a = ca at *
  generalize tin c b = cb at *
  clear tr
  generalize allT = Y at *
  unfold tv at Ma Mb Mc XJ XM AL Iaa Ial Iab Iac Iaj Ibj Ijc Ima Imb Ica Icb Icm HL HT FR Ibc ⊢
  replace Ma := hid Ma
  replace Mb := hid Mb
  replace Mc := hid Mc
  replace XJ := hid XJ
  replace XM := hid XM
  replace AL := hid AL
  replace Iaa := hid Iaa
  replace Ial := hid Ial
  replace Iab := hid Iab
  replace Iac := hid Iac
  replace Iaj := hid Iaj
  replace Ibj := hid Ibj
  replace Ijc := hid Ijc
  replace Ima := hid Ima
  replace Imb := hid Imb
  replace Ica := hid Ica
  replace Icb := hid Icb
  replace Icm := hid Icm
  replace HL := hid HL
  replace HT := hid HT
  replace FR := hid FR
  replace Ibc := hid Ibc
  replace jc := hid jc
  replace mA := hid mA
  replace mB := hid mB
  replace cM := hid cM
  replace hce := hid hce
  go_enter Try.func11, Try.ntmps11
  go_wp2_with fail
  refine (HAW.out _).mono ?_
  rintro e w1 ⟨rfl, z⟩
  have JA : TC w1 w.heap.size a := ((TC.new rfl).alloc _ |>.alloc _).below z
  have JB : TC w1 (w.heap.size + 1) b := ((TC.new (by simp)).alloc _).below z
  have JC : TC w1 (w.heap.size + 1 + 1) c := (TC.new (by simp)).below z
  have B : Below w.heap.size w w1 := ((((Below.refl _ _).alloc (Nat.le_refl _) _).alloc (by simp) _).alloc (by simp; omega) _).trans (z.mono (by simp; omega))
  clear z
  have JA0 := JA.2.1
  have JA1 := JA.2.2
  have JAl := JA.1
  have JB0 := JB.2.1
  have JB1 := JB.2.2
  have JBl := JB.1
  have JC0 := JC.2.1
  have JC1 := JC.2.2
  have JCl := JC.1
  have lB := B.size
  go_wp2_with fail
  refine (Ma.out _).mono ?_
  rintro e w2 ⟨rfl, z⟩
  clear JA0 JA1 JAl JB0 JB1 JBl JC0 JC1 JCl lB
  replace JA := JA.below z
  replace JB := JB.below z
  replace JC := JC.below z
  replace B := below_next B z
  clear z
  have JA0 := JA.2.1
  have JA1 := JA.2.2
  have JAl := JA.1
  have JB0 := JB.2.1
  have JB1 := JB.2.2
  have JBl := JB.1
  have JC0 := JC.2.1
  have JC1 := JC.2.2
  have JCl := JC.1
  have lB := B.size
  go_wp2_with fail
  refine (Mb.out _).mono ?_
  rintro e w3 ⟨rfl, z⟩
  clear JA0 JA1 JAl JB0 JB1 JBl JC0 JC1 JCl lB
  replace JA := JA.below z
  replace JB := JB.below z
  replace JC := JC.below z
  replace B := below_next B z
  clear z
  have JA0 := JA.2.1
  have JA1 := JA.2.2
  have JAl := JA.1
  have JB0 := JB.2.1
  have JB1 := JB.2.2
  have JBl := JB.1
  have JC0 := JC.2.1
  have JC1 := JC.2.2
  have JCl := JC.1
  have lB := B.size
  go_wp2_with fail
  refine (Mc.out _).mono ?_
  rintro e w4 ⟨rfl, z⟩
  clear JA0 JA1 JAl JB0 JB1 JBl JC0 JC1 JCl lB
  replace JA := JA.below z
  replace JB := JB.below z
  replace JC := JC.below z
  replace B := below_next B z
  clear z
  have JA0 := JA.2.1
  have JA1 := JA.2.2
  have JAl := JA.1
  have JB0 := JB.2.1
  have JB1 := JB.2.2
  have JBl := JB.1
  have JC0 := JC.2.1
  have JC1 := JC.2.2
  have JCl := JC.1
  have lB := B.size
  go_wp2_with fail
  refine (XJ.out _).mono ?_
  rintro e w5 ⟨rfl, z⟩
  clear JA0 JA1 JAl JB0 JB1 JBl JC0 JC1 JCl lB
  replace JA := JA.below z
  replace JB := JB.below z
  replace JC := JC.below z
  replace B := below_next B z
  clear z
  have JA0 := JA.2.1
  have JA1 := JA.2.2
  have JAl := JA.1
  have JB0 := JB.2.1
  have JB1 := JB.2.2
  have JBl := JB.1
  have JC0 := JC.2.1
  have JC1 := JC.2.2
  have JCl := JC.1
  have lB := B.size
  go_wp2_with fail
  clear JA0 JA1 JAl JB0 JB1 JBl JC0 JC1 JCl lB
  have JJ : TC (w5.alloc (.cells #[.int .u64 (ub J.1), .int .u64 (ub J.2)] 24)) w5.heap.size J := TC.new rfl
  replace JA := JA.alloc (.cells #[.int .u64 (ub J.1), .int .u64 (ub J.2)] 24)
  replace JB := JB.alloc (.cells #[.int .u64 (ub J.1), .int .u64 (ub J.2)] 24)
  replace JC := JC.alloc (.cells #[.int .u64 (ub J.1), .int .u64 (ub J.2)] 24)
  replace B := Below.alloc B B.size (.cells #[.int .u64 (ub J.1), .int .u64 (ub J.2)] 24)
  generalize w5.alloc (.cells #[.int .u64 (ub J.1), .int .u64 (ub J.2)] 24) = w6 at *
  generalize w5.heap.size = g1 at *
  have JA0 := JA.2.1
  have JA1 := JA.2.2
  have JAl := JA.1
  have JB0 := JB.2.1
  have JB1 := JB.2.2
  have JBl := JB.1
  have JC0 := JC.2.1
  have JC1 := JC.2.2
  have JCl := JC.1
  have JJ0 := JJ.2.1
  have JJ1 := JJ.2.2
  have JJl := JJ.1
  have lB := B.size
  go_wp2_with fail
  refine wp_region_held_drew (S := (fun w' : World => Below w6.heap.size w6 w')) (by kernel_rfl) ?_ (fun hHeld => ?_)
  · (try dsimp only); first | (with_reducible exact below_dr _) | (with_reducible exact Below.refl _ _) | exact below_dr _
  have hBk := below_dr w6
  refine take_d (i := 0) (v := ?vordp0r1) rfl (by rfl) (by kernel_rfl) (by kernel_rfl) (by kernel_rfl) (fun _ _ _ h => h) (Or.inl ⟨by rfl, ?hordp0r1⟩) (by assumption) ?rordp0r1
  case hordp0r1 => (intro wS hSw; (try dsimp only at hSw); go_simp; try (with_reducible rfl))
  (try simp only [Act.put, List.setIfInBounds_toArray, List.set_cons_zero, List.set_cons_succ])
  refine take_d (i := 1) (v := ?vordp0r2) rfl (by rfl) (by kernel_rfl) (by kernel_rfl) (by kernel_rfl) (fun _ _ _ h => h) (Or.inl ⟨by rfl, ?hordp0r2⟩) (by assumption) ?rordp0r2
  case hordp0r2 => (intro wS hSw; (try dsimp only at hSw); go_simp; try (with_reducible rfl))
  (try simp only [Act.put, List.setIfInBounds_toArray, List.set_cons_zero, List.set_cons_succ])
  refine take_d (i := 2) (v := ?vordp0r3) rfl (by rfl) (by kernel_rfl) (by kernel_rfl) (by kernel_rfl) (fun _ _ _ h => h) (Or.inl ⟨by rfl, ?hordp0r3⟩) (by assumption) ?rordp0r3
  case hordp0r3 => (intro wS hSw; (try dsimp only at hSw); go_simp; try (with_reducible rfl))
  (try simp only [Act.put, List.setIfInBounds_toArray, List.set_cons_zero, List.set_cons_succ])
  refine take_d (i := 3) (v := ?vordp0r4) rfl (by rfl) (by kernel_rfl) (by kernel_rfl) (by kernel_rfl) (fun _ _ _ h => h) (Or.inl ⟨by rfl, ?hordp0r4⟩) (by assumption) ?rordp0r4
  case hordp0r4 => (intro wS hSw; (try dsimp only at hSw); have hcq0 := cn hSw JA0; have hcq1 := cn hSw JA1; go_simp; try (with_reducible rfl))
  (try simp only [Act.put, List.setIfInBounds_toArray, List.set_cons_zero, List.set_cons_succ])
  refine take_d (i := 4) (v := ?vordp0r5) rfl (by rfl) (by kernel_rfl) (by kernel_rfl) (by kernel_rfl) (fun _ _ _ h => h) (Or.inl ⟨by rfl, ?hordp0r5⟩) (by assumption) ?rordp0r5
  case hordp0r5 => (intro wS hSw; (try dsimp only at hSw); have hcq0 := cn hSw JA0; have hcq1 := cn hSw JA1; go_simp; try (with_reducible rfl))
  (try simp only [Act.put, List.setIfInBounds_toArray, List.set_cons_zero, List.set_cons_succ])
  refine wpAnyH_ready (rs := [5]) (by kernel_rfl) (by simp) ?_
  refine AllReadyH.cons rfl (fun K hK => ?_) AllReadyH.nil
  go_simp
  go_at_call 48
  refine (Iaa.out _).mono ?_
  rintro e wordp0r6 ⟨rfl, bkordp0r6⟩
  have hBn := below_next hBk bkordp0r6
  clear hBk bkordp0r6
  have hBk := hBn
  clear hBn
  try go_simp
  refine hK.out _ _ ?_ (fun hHeld => ?_)
  · (try dsimp only); exact hBk
  clear hK K
  (try simp only [Act.put, List.setIfInBounds_toArray, List.set_cons_zero, List.set_cons_succ])
  refine take_d (i := 6) (v := ?vordp0r7) rfl (by rfl) (by kernel_rfl) (by kernel_rfl) (by kernel_rfl) (fun _ _ _ h => h) (Or.inl ⟨by rfl, ?hordp0r7⟩) (by assumption) ?rordp0r7
  case hordp0r7 => (intro wS hSw; (try dsimp only at hSw); go_simp; try (with_reducible rfl))
  (try simp only [Act.put, List.setIfInBounds_toArray, List.set_cons_zero, List.set_cons_succ])
  refine take_d (i := 7) (v := ?vordp0r8) rfl (by rfl) (by kernel_rfl) (by kernel_rfl) (by kernel_rfl) (fun _ _ _ h => h) (Or.inl ⟨by rfl, ?hordp0r8⟩) (by assumption) ?rordp0r8
  case hordp0r8 => (intro wS hSw; (try dsimp only at hSw); go_simp; try (with_reducible rfl))
  (try simp only [Act.put, List.setIfInBounds_toArray, List.set_cons_zero, List.set_cons_succ])
  refine take_d (i := 8) (v := ?vordp0r9) rfl (by rfl) (by kernel_rfl) (by kernel_rfl) (by kernel_rfl) (fun _ _ _ h => h) (Or.inl ⟨by rfl, ?hordp0r9⟩) (by assumption) ?rordp0r9
  case hordp0r9 => (intro wS hSw; (try dsimp only at hSw); go_simp; try (with_reducible rfl))
  (try simp only [Act.put, List.setIfInBounds_toArray, List.set_cons_zero, List.set_cons_succ])
  refine take_d (i := 9) (v := ?vordp0r10) rfl (by rfl) (by kernel_rfl) (by kernel_rfl) (by kernel_rfl) (fun _ _ _ h => h) (Or.inl ⟨by rfl, ?hordp0r10⟩) (by assumption) ?rordp0r10
  case hordp0r10 => (intro wS hSw; (try dsimp only at hSw); have hcq0 := cn hSw JA0; have hcq1 := cn hSw JA1; go_simp; try (with_reducible rfl))
  (try simp only [Act.put, List.setIfInBounds_toArray, List.set_cons_zero, List.set_cons_succ])
  refine wpAnyH_ready (rs := [10]) (by kernel_rfl) (by simp) ?_
  refine AllReadyH.cons rfl (fun K hK => ?_) AllReadyH.nil
  go_simp
  go_at_call 50
  refine (AL.out _).mono ?_
  rintro e wordp0r11 ⟨rfl, bkordp0r11⟩
  have hBn := below_next hBk bkordp0r11
  clear hBk bkordp0r11
  have hBk := hBn
  clear hBn
  try go_simp
  refine hK.out _ _ ?_ (fun hHeld => ?_)
  · (try dsimp only); exact hBk
  clear hK K
  (try simp only [Act.put, List.setIfInBounds_toArray, List.set_cons_zero, List.set_cons_succ])
  refine wpAnyH_ready (rs := [11]) (by kernel_rfl) (by simp) ?_
  refine AllReadyH.cons rfl (fun K hK => ?_) AllReadyH.nil
  go_simp
  go_at_call 48
  refine (Ial.out _).mono ?_
  rintro e wordp0r12 ⟨rfl, bkordp0r12⟩
  have hBn := below_next hBk bkordp0r12
  clear hBk bkordp0r12
  have hBk := hBn
  clear hBn
  try go_simp
  refine hK.out _ _ ?_ (fun hHeld => ?_)
  · (try dsimp only); exact hBk
  clear hK K
  (try simp only [Act.put, List.setIfInBounds_toArray, List.set_cons_zero, List.set_cons_succ])
  refine take_d (i := 12) (v := ?vordp0r13) rfl (by rfl) (by kernel_rfl) (by kernel_rfl) (by kernel_rfl) (fun _ _ _ h => h) (Or.inl ⟨by rfl, ?hordp0r13⟩) (by assumption) ?rordp0r13
  case hordp0r13 => (intro wS hSw; (try dsimp only at hSw); go_simp; try (with_reducible rfl))
  (try simp only [Act.put, List.setIfInBounds_toArray, List.set_cons_zero, List.set_cons_succ])
  refine take_d (i := 13) (v := ?vordp0r14) rfl (by rfl) (by kernel_rfl) (by kernel_rfl) (by kernel_rfl) (fun _ _ _ h => h) (Or.inl ⟨by rfl, ?hordp0r14⟩) (by assumption) ?rordp0r14
  case hordp0r14 => (intro wS hSw; (try dsimp only at hSw); go_simp; try (with_reducible rfl))
  (try simp only [Act.put, List.setIfInBounds_toArray, List.set_cons_zero, List.set_cons_succ])
  refine take_d (i := 14) (v := ?vordp0r15) rfl (by rfl) (by kernel_rfl) (by kernel_rfl) (by kernel_rfl) (fun _ _ _ h => h) (Or.inl ⟨by rfl, ?hordp0r15⟩) (by assumption) ?rordp0r15
  case hordp0r15 => (intro wS hSw; (try dsimp only at hSw); go_simp; try (with_reducible rfl))
  (try simp only [Act.put, List.setIfInBounds_toArray, List.set_cons_zero, List.set_cons_succ])
  refine take_d (i := 15) (v := ?vordp0r16) rfl (by rfl) (by kernel_rfl) (by kernel_rfl) (by kernel_rfl) (fun _ _ _ h => h) (Or.inl ⟨by rfl, ?hordp0r16⟩) (by assumption) ?rordp0r16
  case hordp0r16 => (intro wS hSw; (try dsimp only at hSw); have hcq0 := cn hSw JA0; have hcq1 := cn hSw JA1; go_simp; try (with_reducible rfl))
  (try simp only [Act.put, List.setIfInBounds_toArray, List.set_cons_zero, List.set_cons_succ])
  refine take_d (i := 16) (v := ?vordp0r17) rfl (by rfl) (by kernel_rfl) (by kernel_rfl) (by kernel_rfl) (fun _ _ _ h => h) (Or.inl ⟨by rfl, ?hordp0r17⟩) (by assumption) ?rordp0r17
  case hordp0r17 => (intro wS hSw; (try dsimp only at hSw); have hcq0 := cn hSw JB0; have hcq1 := cn hSw JB1; go_simp; try (with_reducible rfl))
  (try simp only [Act.put, List.setIfInBounds_toArray, List.set_cons_zero, List.set_cons_succ])
  refine wpAnyH_ready (rs := [17]) (by kernel_rfl) (by simp) ?_
  refine AllReadyH.cons rfl (fun K hK => ?_) AllReadyH.nil
  go_simp
  go_at_call 48
  refine (Iab.out _).mono ?_
  rintro e wordp0r18 ⟨rfl, bkordp0r18⟩
  have hBn := below_next hBk bkordp0r18
  clear hBk bkordp0r18
  have hBk := hBn
  clear hBn
  try go_simp
  refine hK.out _ _ ?_ (fun hHeld => ?_)
  · (try dsimp only); exact hBk
  clear hK K
  (try simp only [Act.put, List.setIfInBounds_toArray, List.set_cons_zero, List.set_cons_succ])
  refine take_d (i := 18) (v := ?vordp0r19) rfl (by rfl) (by kernel_rfl) (by kernel_rfl) (by kernel_rfl) (fun _ _ _ h => h) (Or.inl ⟨by rfl, ?hordp0r19⟩) (by assumption) ?rordp0r19
  case hordp0r19 => (intro wS hSw; (try dsimp only at hSw); go_simp; try (with_reducible rfl))
  (try simp only [Act.put, List.setIfInBounds_toArray, List.set_cons_zero, List.set_cons_succ])
  refine take_d (i := 19) (v := undef) rfl (by rfl) (by kernel_rfl) (by kernel_rfl) (by kernel_rfl) (fun _ _ _ h => h) (Or.inr ⟨by rfl, rfl⟩) (by assumption) ?rordp0r20
  (try simp only [Act.put, List.setIfInBounds_toArray, List.set_cons_zero, List.set_cons_succ])
  refine take_d (i := 20) (v := undef) rfl (by rfl) (by kernel_rfl) (by kernel_rfl) (by kernel_rfl) (fun _ _ _ h => h) (Or.inr ⟨by rfl, rfl⟩) (by assumption) ?rordp0r21
  (try simp only [Act.put, List.setIfInBounds_toArray, List.set_cons_zero, List.set_cons_succ])
  refine take_d (i := 21) (v := undef) rfl (by rfl) (by kernel_rfl) (by kernel_rfl) (by kernel_rfl) (fun _ _ _ h => h) (Or.inr ⟨by rfl, rfl⟩) (by assumption) ?rordp0r22
  (try simp only [Act.put, List.setIfInBounds_toArray, List.set_cons_zero, List.set_cons_succ])
  refine take_d (i := 22) (v := ?vordp0r23) rfl (by rfl) (by kernel_rfl) (by kernel_rfl) (by kernel_rfl) (fun _ _ _ h => h) (Or.inl ⟨by rfl, ?hordp0r23⟩) (by assumption) ?rordp0r23
  case hordp0r23 => (intro wS hSw; (try dsimp only at hSw); go_simp; try (with_reducible rfl))
  (try simp only [Act.put, List.setIfInBounds_toArray, List.set_cons_zero, List.set_cons_succ])
  refine take_d (i := 23) (v := ?vordp0r24) rfl (by rfl) (by kernel_rfl) (by kernel_rfl) (by kernel_rfl) (fun _ _ _ h => h) (Or.inl ⟨by rfl, ?hordp0r24⟩) (by assumption) ?rordp0r24
  case hordp0r24 => (intro wS hSw; (try dsimp only at hSw); go_simp; try (with_reducible rfl))
  (try simp only [Act.put, List.setIfInBounds_toArray, List.set_cons_zero, List.set_cons_succ])
  refine take_d (i := 24) (v := undef) rfl (by rfl) (by kernel_rfl) (by kernel_rfl) (by kernel_rfl) (fun _ _ _ h => h) (Or.inr ⟨by rfl, rfl⟩) (by assumption) ?rordp0r25
  (try simp only [Act.put, List.setIfInBounds_toArray, List.set_cons_zero, List.set_cons_succ])
  refine take_d (i := 25) (v := undef) rfl (by rfl) (by kernel_rfl) (by kernel_rfl) (by kernel_rfl) (fun _ _ _ h => h) (Or.inr ⟨by rfl, rfl⟩) (by assumption) ?rordp0r26
  (try simp only [Act.put, List.setIfInBounds_toArray, List.set_cons_zero, List.set_cons_succ])
  refine take_d (i := 26) (v := undef) rfl (by rfl) (by kernel_rfl) (by kernel_rfl) (by kernel_rfl) (fun _ _ _ h => h) (Or.inr ⟨by rfl, rfl⟩) (by assumption) ?rordp0r27
  (try simp only [Act.put, List.setIfInBounds_toArray, List.set_cons_zero, List.set_cons_succ])
  refine take_d (i := 27) (v := ?vordp0r28) rfl (by rfl) (by kernel_rfl) (by kernel_rfl) (by kernel_rfl) (fun _ _ _ h => h) (Or.inl ⟨by rfl, ?hordp0r28⟩) (by assumption) ?rordp0r28
  case hordp0r28 => (intro wS hSw; (try dsimp only at hSw); go_simp; try (with_reducible rfl))
  (try simp only [Act.put, List.setIfInBounds_toArray, List.set_cons_zero, List.set_cons_succ])
  refine take_d (i := 28) (v := ?vordp0r29) rfl (by rfl) (by kernel_rfl) (by kernel_rfl) (by kernel_rfl) (fun _ _ _ h => h) (Or.inl ⟨by rfl, ?hordp0r29⟩) (by assumption) ?rordp0r29
  case hordp0r29 => (intro wS hSw; (try dsimp only at hSw); go_simp; try (with_reducible rfl))
  (try simp only [Act.put, List.setIfInBounds_toArray, List.set_cons_zero, List.set_cons_succ])
  refine take_d (i := 29) (v := ?vordp0r30) rfl (by rfl) (by kernel_rfl) (by kernel_rfl) (by kernel_rfl) (fun _ _ _ h => h) (Or.inl ⟨by rfl, ?hordp0r30⟩) (by assumption) ?rordp0r30
  case hordp0r30 => (intro wS hSw; (try dsimp only at hSw); go_simp; try (with_reducible rfl))
  (try simp only [Act.put, List.setIfInBounds_toArray, List.set_cons_zero, List.set_cons_succ])
  refine take_d (i := 30) (v := ?vordp0r31) rfl (by rfl) (by kernel_rfl) (by kernel_rfl) (by kernel_rfl) (fun _ _ _ h => h) (Or.inl ⟨by rfl, ?hordp0r31⟩) (by assumption) ?rordp0r31
  case hordp0r31 => (intro wS hSw; (try dsimp only at hSw); have hcq0 := cn hSw JA0; have hcq1 := cn hSw JA1; go_simp; try (with_reducible rfl))
  (try simp only [Act.put, List.setIfInBounds_toArray, List.set_cons_zero, List.set_cons_succ])
  refine take_d (i := 31) (v := ?vordp0r32) rfl (by rfl) (by kernel_rfl) (by kernel_rfl) (by kernel_rfl) (fun _ _ _ h => h) (Or.inl ⟨by rfl, ?hordp0r32⟩) (by assumption) ?rordp0r32
  case hordp0r32 => (intro wS hSw; (try dsimp only at hSw); have hcq0 := cn hSw JB0; have hcq1 := cn hSw JB1; go_simp; try (with_reducible rfl))
  (try simp only [Act.put, List.setIfInBounds_toArray, List.set_cons_zero, List.set_cons_succ])
  refine wpAnyH_ready (rs := [32]) (by kernel_rfl) (by simp) ?_
  refine AllReadyH.cons rfl (fun K hK => ?_) AllReadyH.nil
  go_simp
  go_at_call 48
  refine (Iab.out _).mono ?_
  rintro e wordp0r33 ⟨rfl, bkordp0r33⟩
  have hBn := below_next hBk bkordp0r33
  clear hBk bkordp0r33
  have hBk := hBn
  clear hBn
  try go_simp
  refine hK.out _ _ ?_ (fun hHeld => ?_)
  · (try dsimp only); exact hBk
  clear hK K
  (try simp only [Act.put, List.setIfInBounds_toArray, List.set_cons_zero, List.set_cons_succ])
  refine take_d (i := 33) (v := ?vordp0r34) rfl (by rfl) (by kernel_rfl) (by kernel_rfl) (by kernel_rfl) (fun _ _ _ h => h) (Or.inl ⟨by rfl, ?hordp0r34⟩) (by assumption) ?rordp0r34
  case hordp0r34 => (intro wS hSw; (try dsimp only at hSw); go_simp; try (with_reducible rfl))
  (try simp only [Act.put, List.setIfInBounds_toArray, List.set_cons_zero, List.set_cons_succ])
  refine take_d (i := 34) (v := undef) rfl (by rfl) (by kernel_rfl) (by kernel_rfl) (by kernel_rfl) (fun _ _ _ h => h) (Or.inr ⟨by rfl, rfl⟩) (by assumption) ?rordp0r35
  (try simp only [Act.put, List.setIfInBounds_toArray, List.set_cons_zero, List.set_cons_succ])
  refine take_d (i := 35) (v := undef) rfl (by rfl) (by kernel_rfl) (by kernel_rfl) (by kernel_rfl) (fun _ _ _ h => h) (Or.inr ⟨by rfl, rfl⟩) (by assumption) ?rordp0r36
  (try simp only [Act.put, List.setIfInBounds_toArray, List.set_cons_zero, List.set_cons_succ])
  refine take_d (i := 36) (v := undef) rfl (by rfl) (by kernel_rfl) (by kernel_rfl) (by kernel_rfl) (fun _ _ _ h => h) (Or.inr ⟨by rfl, rfl⟩) (by assumption) ?rordp0r37
  (try simp only [Act.put, List.setIfInBounds_toArray, List.set_cons_zero, List.set_cons_succ])
  refine take_d (i := 37) (v := ?vordp0r38) rfl (by rfl) (by kernel_rfl) (by kernel_rfl) (by kernel_rfl) (fun _ _ _ h => h) (Or.inl ⟨by rfl, ?hordp0r38⟩) (by assumption) ?rordp0r38
  case hordp0r38 => (intro wS hSw; (try dsimp only at hSw); go_simp; try (with_reducible rfl))
  (try simp only [Act.put, List.setIfInBounds_toArray, List.set_cons_zero, List.set_cons_succ])
  refine take_d (i := 38) (v := ?vordp0r39) rfl (by rfl) (by kernel_rfl) (by kernel_rfl) (by kernel_rfl) (fun _ _ _ h => h) (Or.inl ⟨by rfl, ?hordp0r39⟩) (by assumption) ?rordp0r39
  case hordp0r39 => (intro wS hSw; (try dsimp only at hSw); go_simp; try (with_reducible rfl))
  (try simp only [Act.put, List.setIfInBounds_toArray, List.set_cons_zero, List.set_cons_succ])
  refine take_d (i := 39) (v := undef) rfl (by rfl) (by kernel_rfl) (by kernel_rfl) (by kernel_rfl) (fun _ _ _ h => h) (Or.inr ⟨by rfl, rfl⟩) (by assumption) ?rordp0r40
  (try simp only [Act.put, List.setIfInBounds_toArray, List.set_cons_zero, List.set_cons_succ])
  refine take_d (i := 40) (v := undef) rfl (by rfl) (by kernel_rfl) (by kernel_rfl) (by kernel_rfl) (fun _ _ _ h => h) (Or.inr ⟨by rfl, rfl⟩) (by assumption) ?rordp0r41
  (try simp only [Act.put, List.setIfInBounds_toArray, List.set_cons_zero, List.set_cons_succ])
  refine take_d (i := 41) (v := undef) rfl (by rfl) (by kernel_rfl) (by kernel_rfl) (by kernel_rfl) (fun _ _ _ h => h) (Or.inr ⟨by rfl, rfl⟩) (by assumption) ?rordp0r42
  (try simp only [Act.put, List.setIfInBounds_toArray, List.set_cons_zero, List.set_cons_succ])
  refine take_d (i := 42) (v := undef) rfl (by rfl) (by kernel_rfl) (by kernel_rfl) (by kernel_rfl) (fun _ _ _ h => h) (Or.inr ⟨by rfl, rfl⟩) (by assumption) ?rordp0r43
  (try simp only [Act.put, List.setIfInBounds_toArray, List.set_cons_zero, List.set_cons_succ])
  refine take_d (i := 43) (v := ?vordp0r44) rfl (by rfl) (by kernel_rfl) (by kernel_rfl) (by kernel_rfl) (fun _ _ _ h => h) (Or.inl ⟨by rfl, ?hordp0r44⟩) (by assumption) ?rordp0r44
  case hordp0r44 => (intro wS hSw; (try dsimp only at hSw); go_simp; try (with_reducible rfl))
  (try simp only [Act.put, List.setIfInBounds_toArray, List.set_cons_zero, List.set_cons_succ])
  refine take_d (i := 44) (v := ?vordp0r45) rfl (by rfl) (by kernel_rfl) (by kernel_rfl) (by kernel_rfl) (fun _ _ _ h => h) (Or.inl ⟨by rfl, ?hordp0r45⟩) (by assumption) ?rordp0r45
  case hordp0r45 => (intro wS hSw; (try dsimp only at hSw); go_simp; try (with_reducible rfl))
  (try simp only [Act.put, List.setIfInBounds_toArray, List.set_cons_zero, List.set_cons_succ])
  refine wpAnyH_done (by kernel_rfl) ?_ _
  clear JA0 JA1 JAl JB0 JB1 JBl JC0 JC1 JCl JJ0 JJ1 JJl lB
  generalize wordp0r33 = w7 at hBk ⊢
  replace JA := JA.below hBk
  replace JB := JB.below hBk
  replace JC := JC.below hBk
  replace JJ := JJ.below hBk
  replace B := below_next B hBk
  clear hBk
  cases ac
  · skip
    have JA0 := JA.2.1
    have JA1 := JA.2.2
    have JAl := JA.1
    have JB0 := JB.2.1
    have JB1 := JB.2.2
    have JBl := JB.1
    have JC0 := JC.2.1
    have JC1 := JC.2.2
    have JCl := JC.1
    have JJ0 := JJ.2.1
    have JJ1 := JJ.2.2
    have JJl := JJ.1
    have lB := B.size
    go_wp2_with fail
    refine (Iaj.out _).mono ?_
    rintro e w8 ⟨rfl, z⟩
    clear JA0 JA1 JAl JB0 JB1 JBl JC0 JC1 JCl JJ0 JJ1 JJl lB
    replace JA := JA.below z
    replace JB := JB.below z
    replace JC := JC.below z
    replace JJ := JJ.below z
    replace B := below_next B z
    clear z
    have JA0 := JA.2.1
    have JA1 := JA.2.2
    have JAl := JA.1
    have JB0 := JB.2.1
    have JB1 := JB.2.2
    have JBl := JB.1
    have JC0 := JC.2.1
    have JC1 := JC.2.2
    have JCl := JC.1
    have JJ0 := JJ.2.1
    have JJ1 := JJ.2.2
    have JJl := JJ.1
    have lB := B.size
    go_wp2_with fail
    refine (Ibj.out _).mono ?_
    rintro e w9 ⟨rfl, z⟩
    clear JA0 JA1 JAl JB0 JB1 JBl JC0 JC1 JCl JJ0 JJ1 JJl lB
    replace JA := JA.below z
    replace JB := JB.below z
    replace JC := JC.below z
    replace JJ := JJ.below z
    replace B := below_next B z
    clear z
    have JA0 := JA.2.1
    have JA1 := JA.2.2
    have JAl := JA.1
    have JB0 := JB.2.1
    have JB1 := JB.2.2
    have JBl := JB.1
    have JC0 := JC.2.1
    have JC1 := JC.2.2
    have JCl := JC.1
    have JJ0 := JJ.2.1
    have JJ1 := JJ.2.2
    have JJl := JJ.1
    have lB := B.size
    go_wp2_with fail
    refine (Iac.out _).mono ?_
    rintro e w10 ⟨rfl, z⟩
    clear JA0 JA1 JAl JB0 JB1 JBl JC0 JC1 JCl JJ0 JJ1 JJl lB
    replace JA := JA.below z
    replace JB := JB.below z
    replace JC := JC.below z
    replace JJ := JJ.below z
    replace B := below_next B z
    clear z
    have JA0 := JA.2.1
    have JA1 := JA.2.2
    have JAl := JA.1
    have JB0 := JB.2.1
    have JB1 := JB.2.2
    have JBl := JB.1
    have JC0 := JC.2.1
    have JC1 := JC.2.2
    have JCl := JC.1
    have JJ0 := JJ.2.1
    have JJ1 := JJ.2.2
    have JJl := JJ.1
    have lB := B.size
    go_wp2_with fail
    refine (XM.out _).mono ?_
    rintro e w11 ⟨rfl, z⟩
    clear JA0 JA1 JAl JB0 JB1 JBl JC0 JC1 JCl JJ0 JJ1 JJl lB
    replace JA := JA.below z
    replace JB := JB.below z
    replace JC := JC.below z
    replace JJ := JJ.below z
    replace B := below_next B z
    clear z
    rcases (show mk = true ∨ mk = false by cases mk <;> simp) with rfl | rfl
    · skip
      obtain rfl : ma = true := mA.out (by trivial)
      obtain rfl : mb = true := mB.out (by trivial)
      clear mA mB
      have JA0 := JA.2.1
      have JA1 := JA.2.2
      have JAl := JA.1
      have JB0 := JB.2.1
      have JB1 := JB.2.2
      have JBl := JB.1
      have JC0 := JC.2.1
      have JC1 := JC.2.2
      have JCl := JC.1
      have JJ0 := JJ.2.1
      have JJ1 := JJ.2.2
      have JJl := JJ.1
      have lB := B.size
      go_wp2_with fail
      clear JA0 JA1 JAl JB0 JB1 JBl JC0 JC1 JCl JJ0 JJ1 JJl lB
      have JM : TC (w11.alloc (.cells #[.int .u64 (ub M0.1), .int .u64 (ub M0.2)] 24)) w11.heap.size M0 := TC.new rfl
      replace JA := JA.alloc (.cells #[.int .u64 (ub M0.1), .int .u64 (ub M0.2)] 24)
      replace JB := JB.alloc (.cells #[.int .u64 (ub M0.1), .int .u64 (ub M0.2)] 24)
      replace JC := JC.alloc (.cells #[.int .u64 (ub M0.1), .int .u64 (ub M0.2)] 24)
      replace JJ := JJ.alloc (.cells #[.int .u64 (ub M0.1), .int .u64 (ub M0.2)] 24)
      replace B := Below.alloc B B.size (.cells #[.int .u64 (ub M0.1), .int .u64 (ub M0.2)] 24)
      generalize w11.alloc (.cells #[.int .u64 (ub M0.1), .int .u64 (ub M0.2)] 24) = w12 at *
      generalize w11.heap.size = g2 at *
      have JA0 := JA.2.1
      have JA1 := JA.2.2
      have JAl := JA.1
      have JB0 := JB.2.1
      have JB1 := JB.2.2
      have JBl := JB.1
      have JC0 := JC.2.1
      have JC1 := JC.2.2
      have JCl := JC.1
      have JJ0 := JJ.2.1
      have JJ1 := JJ.2.2
      have JJl := JJ.1
      have JM0 := JM.2.1
      have JM1 := JM.2.2
      have JMl := JM.1
      have lB := B.size
      go_wp2_with fail
      refine (Ima.out _).mono ?_
      rintro e w13 ⟨rfl, z⟩
      clear JA0 JA1 JAl JB0 JB1 JBl JC0 JC1 JCl JJ0 JJ1 JJl JM0 JM1 JMl lB
      replace JA := JA.below z
      replace JB := JB.below z
      replace JC := JC.below z
      replace JJ := JJ.below z
      replace JM := JM.below z
      replace B := below_next B z
      clear z
      have JA0 := JA.2.1
      have JA1 := JA.2.2
      have JAl := JA.1
      have JB0 := JB.2.1
      have JB1 := JB.2.2
      have JBl := JB.1
      have JC0 := JC.2.1
      have JC1 := JC.2.2
      have JCl := JC.1
      have JJ0 := JJ.2.1
      have JJ1 := JJ.2.2
      have JJl := JJ.1
      have JM0 := JM.2.1
      have JM1 := JM.2.2
      have JMl := JM.1
      have lB := B.size
      go_wp2_with fail
      refine (Imb.out _).mono ?_
      rintro e w14 ⟨rfl, z⟩
      clear JA0 JA1 JAl JB0 JB1 JBl JC0 JC1 JCl JJ0 JJ1 JJl JM0 JM1 JMl lB
      replace JA := JA.below z
      replace JB := JB.below z
      replace JC := JC.below z
      replace JJ := JJ.below z
      replace JM := JM.below z
      replace B := below_next B z
      clear z
      have JA0 := JA.2.1
      have JA1 := JA.2.2
      have JAl := JA.1
      have JB0 := JB.2.1
      have JB1 := JB.2.2
      have JBl := JB.1
      have JC0 := JC.2.1
      have JC1 := JC.2.2
      have JCl := JC.1
      have JJ0 := JJ.2.1
      have JJ1 := JJ.2.2
      have JJl := JJ.1
      have JM0 := JM.2.1
      have JM1 := JM.2.2
      have JMl := JM.1
      have lB := B.size
      go_wp2_with fail
      refine (Ica.out _).mono ?_
      rintro e w15 ⟨rfl, z⟩
      clear JA0 JA1 JAl JB0 JB1 JBl JC0 JC1 JCl JJ0 JJ1 JJl JM0 JM1 JMl lB
      replace JA := JA.below z
      replace JB := JB.below z
      replace JC := JC.below z
      replace JJ := JJ.below z
      replace JM := JM.below z
      replace B := below_next B z
      clear z
      cases ca
      · skip
        have hce := hce.out
        have JA0 := JA.2.1
        have JA1 := JA.2.2
        have JAl := JA.1
        have JB0 := JB.2.1
        have JB1 := JB.2.2
        have JBl := JB.1
        have JC0 := JC.2.1
        have JC1 := JC.2.2
        have JCl := JC.1
        have JJ0 := JJ.2.1
        have JJ1 := JJ.2.2
        have JJl := JJ.1
        have JM0 := JM.2.1
        have JM1 := JM.2.2
        have JMl := JM.1
        have lB := B.size
        go_wp2_with fail
        refine wp_region_held_drew (S := (fun w' : World => Below w15.heap.size w15 w')) (by kernel_rfl) ?_ (fun hHeld => ?_)
        · (try dsimp only); first | (with_reducible exact below_dr _) | (with_reducible exact Below.refl _ _) | exact below_dr _
        have hBk := below_dr w15
        refine take_d (i := 0) (v := ?vq1_1) rfl (by rfl) (by kernel_rfl) (by kernel_rfl) (by kernel_rfl) (fun _ _ _ h => h) (Or.inl ⟨by rfl, ?hq1_1⟩) (by assumption) ?rq1_1
        case hq1_1 => (intro wS hSw; (try dsimp only at hSw); have hcq0 := cn hSw JA0; have hcq1 := cn hSw JA1; go_simp; try (with_reducible rfl))
        (try simp only [Act.put, List.setIfInBounds_toArray, List.set_cons_zero, List.set_cons_succ])
        refine take_d (i := 1) (v := ?vq1_2) rfl (by rfl) (by kernel_rfl) (by kernel_rfl) (by kernel_rfl) (fun _ _ _ h => h) (Or.inl ⟨by rfl, ?hq1_2⟩) (by assumption) ?rq1_2
        case hq1_2 => (intro wS hSw; (try dsimp only at hSw); go_simp; try (with_reducible rfl))
        (try simp only [Act.put, List.setIfInBounds_toArray, List.set_cons_zero, List.set_cons_succ])
        refine take_d (i := 2) (v := ?vq1_3) rfl (by rfl) (by kernel_rfl) (by kernel_rfl) (by kernel_rfl) (fun _ _ _ h => h) (Or.inl ⟨by rfl, ?hq1_3⟩) (by assumption) ?rq1_3
        case hq1_3 => (intro wS hSw; (try dsimp only at hSw); have hcq0 := cn hSw JA0; have hcq1 := cn hSw JA1; go_simp; try (with_reducible rfl))
        (try simp only [Act.put, List.setIfInBounds_toArray, List.set_cons_zero, List.set_cons_succ])
        refine wpAnyH_ready (rs := [3]) (by kernel_rfl) (by simp) ?_
        refine AllReadyH.cons rfl (fun K hK => ?_) AllReadyH.nil
        go_simp
        go_at_call 46
        refine (HL.out _).mono ?_
        rintro e wq1_4 ⟨rfl, bkq1_4⟩
        have hBn := below_next hBk bkq1_4
        clear hBk bkq1_4
        have hBk := hBn
        clear hBn
        try go_simp
        refine hK.out _ _ ?_ (fun hHeld => ?_)
        · (try dsimp only); exact hBk
        clear hK K
        (try simp only [Act.put, List.setIfInBounds_toArray, List.set_cons_zero, List.set_cons_succ])
        refine take_d (i := 4) (v := ?vq1_5) rfl (by rfl) (by kernel_rfl) (by kernel_rfl) (by kernel_rfl) (fun _ _ _ h => h) (Or.inl ⟨by rfl, ?hq1_5⟩) (by assumption) ?rq1_5
        case hq1_5 => (intro wS hSw; (try dsimp only at hSw); go_simp; try (with_reducible rfl))
        (try simp only [Act.put, List.setIfInBounds_toArray, List.set_cons_zero, List.set_cons_succ])
        refine take_d (i := 5) (v := ?vq1_6) rfl (by rfl) (by kernel_rfl) (by kernel_rfl) (by kernel_rfl) (fun _ _ _ h => h) (Or.inl ⟨by rfl, ?hq1_6⟩) (by assumption) ?rq1_6
        case hq1_6 => (intro wS hSw; (try dsimp only at hSw); have hcq0 := cn hSw JA0; have hcq1 := cn hSw JA1; go_simp; try (with_reducible rfl))
        (try simp only [Act.put, List.setIfInBounds_toArray, List.set_cons_zero, List.set_cons_succ])
        refine take_d (i := 6) (v := ?vq1_7) rfl (by rfl) (by kernel_rfl) (by kernel_rfl) (by kernel_rfl) (fun _ _ _ h => h) (Or.inl ⟨by rfl, ?hq1_7⟩) (by assumption) ?rq1_7
        case hq1_7 => (intro wS hSw; (try dsimp only at hSw); go_simp; try (with_reducible rfl))
        (try simp only [Act.put, List.setIfInBounds_toArray, List.set_cons_zero, List.set_cons_succ])
        refine take_d (i := 7) (v := ?vq1_8) rfl (by rfl) (by kernel_rfl) (by kernel_rfl) (by kernel_rfl) (fun _ _ _ h => h) (Or.inl ⟨by rfl, ?hq1_8⟩) (by assumption) ?rq1_8
        case hq1_8 => (intro wS hSw; (try dsimp only at hSw); have hcq0 := cn hSw JA0; have hcq1 := cn hSw JA1; go_simp; try (with_reducible rfl))
        (try simp only [Act.put, List.setIfInBounds_toArray, List.set_cons_zero, List.set_cons_succ])
        refine take_d (i := 8) (v := ?vq1_9) rfl (by rfl) (by kernel_rfl) (by kernel_rfl) (by kernel_rfl) (fun _ _ _ h => h) (Or.inl ⟨by rfl, ?hq1_9⟩) (by assumption) ?rq1_9
        case hq1_9 => (intro wS hSw; (try dsimp only at hSw); go_simp; try (with_reducible rfl))
        (try simp only [Act.put, List.setIfInBounds_toArray, List.set_cons_zero, List.set_cons_succ])
        refine take_d (i := 9) (v := ?vq1_10) rfl (by rfl) (by kernel_rfl) (by kernel_rfl) (by kernel_rfl) (fun _ _ _ h => h) (Or.inl ⟨by rfl, ?hq1_10⟩) (by assumption) ?rq1_10
        case hq1_10 => (intro wS hSw; (try dsimp only at hSw); have hcq0 := cn hSw JA0; have hcq1 := cn hSw JA1; go_simp; try (with_reducible rfl))
        (try simp only [Act.put, List.setIfInBounds_toArray, List.set_cons_zero, List.set_cons_succ])
        refine take_d (i := 10) (v := ?vq1_11) rfl (by rfl) (by kernel_rfl) (by kernel_rfl) (by kernel_rfl) (fun _ _ _ h => h) (Or.inl ⟨by rfl, ?hq1_11⟩) (by assumption) ?rq1_11
        case hq1_11 => (intro wS hSw; (try dsimp only at hSw); go_simp; try (with_reducible rfl))
        (try simp only [Act.put, List.setIfInBounds_toArray, List.set_cons_zero, List.set_cons_succ])
        refine wpAnyH_ready (rs := [11]) (by kernel_rfl) (by simp) ?_
        refine AllReadyH.cons rfl (fun K hK => ?_) AllReadyH.nil
        go_simp
        go_at_call 46
        refine (HT.out _).mono ?_
        rintro e wq1_12 ⟨rfl, bkq1_12⟩
        have hBn := below_next hBk bkq1_12
        clear hBk bkq1_12
        have hBk := hBn
        clear hBn
        try go_simp
        refine hK.out _ _ ?_ (fun hHeld => ?_)
        · (try dsimp only); exact hBk
        clear hK K
        (try simp only [Act.put, List.setIfInBounds_toArray, List.set_cons_zero, List.set_cons_succ])
        refine take_d (i := 12) (v := ?vq1_13) rfl (by rfl) (by kernel_rfl) (by kernel_rfl) (by kernel_rfl) (fun _ _ _ h => h) (Or.inl ⟨by rfl, ?hq1_13⟩) (by assumption) ?rq1_13
        case hq1_13 => (intro wS hSw; (try dsimp only at hSw); go_simp; try (with_reducible rfl))
        (try simp only [Act.put, List.setIfInBounds_toArray, List.set_cons_zero, List.set_cons_succ])
        refine take_d (i := 13) (v := ?vq1_14) rfl (by rfl) (by kernel_rfl) (by kernel_rfl) (by kernel_rfl) (fun _ _ _ h => h) (Or.inl ⟨by rfl, ?hq1_14⟩) (by assumption) ?rq1_14
        case hq1_14 => (intro wS hSw; (try dsimp only at hSw); go_simp; try (with_reducible rfl))
        (try simp only [Act.put, List.setIfInBounds_toArray, List.set_cons_zero, List.set_cons_succ])
        refine take_d (i := 14) (v := ?vq1_15) rfl (by rfl) (by kernel_rfl) (by kernel_rfl) (by kernel_rfl) (fun _ _ _ h => h) (Or.inl ⟨by rfl, ?hq1_15⟩) (by assumption) ?rq1_15
        case hq1_15 => (intro wS hSw; (try dsimp only at hSw); have hcq0 := cn hSw JA0; have hcq1 := cn hSw JA1; go_simp; try (with_reducible rfl))
        (try simp only [Act.put, List.setIfInBounds_toArray, List.set_cons_zero, List.set_cons_succ])
        refine take_d (i := 17) (v := ?vq1_16) rfl (by rfl) (by kernel_rfl) (by kernel_rfl) (by kernel_rfl) (fun _ _ _ h => h) (Or.inl ⟨by rfl, ?hq1_16⟩) (by assumption) ?rq1_16
        case hq1_16 => (intro wS hSw; (try dsimp only at hSw); go_simp; try (with_reducible rfl))
        (try simp only [Act.put, List.setIfInBounds_toArray, List.set_cons_zero, List.set_cons_succ])
        refine take_d (i := 18) (v := ?vq1_17) rfl (by rfl) (by kernel_rfl) (by kernel_rfl) (by kernel_rfl) (fun _ _ _ h => h) (Or.inl ⟨by rfl, ?hq1_17⟩) (by assumption) ?rq1_17
        case hq1_17 => (intro wS hSw; (try dsimp only at hSw); have hcq0 := cn hSw JA0; have hcq1 := cn hSw JA1; go_simp; try (with_reducible rfl))
        (try simp only [Act.put, List.setIfInBounds_toArray, List.set_cons_zero, List.set_cons_succ])
        refine take_d (i := 19) (v := ?vq1_18) rfl (by rfl) (by kernel_rfl) (by kernel_rfl) (by kernel_rfl) (fun _ _ _ h => h) (Or.inl ⟨by rfl, ?hq1_18⟩) (by assumption) ?rq1_18
        case hq1_18 => (intro wS hSw; (try dsimp only at hSw); go_simp; try (with_reducible rfl))
        (try simp only [Act.put, List.setIfInBounds_toArray, List.set_cons_zero, List.set_cons_succ])
        refine wpAnyH_ready (rs := [15]) (by kernel_rfl) (by simp) ?_
        refine AllReadyH.cons rfl (fun K hK => ?_) AllReadyH.nil
        go_simp
        go_at_call 49
        refine (FR.out _).mono ?_
        rintro e wq1_19 ⟨rfl, bkq1_19⟩
        have hBn := below_next hBk bkq1_19
        clear hBk bkq1_19
        have hBk := hBn
        clear hBn
        try go_simp
        refine hK.out _ _ ?_ (fun hHeld => ?_)
        · (try dsimp only); exact hBk
        clear hK K
        (try simp only [Act.put, List.setIfInBounds_toArray, List.set_cons_zero, List.set_cons_succ])
        refine take_d (i := 16) (v := ?vq1_20) rfl (by rfl) (by kernel_rfl) (by kernel_rfl) (by kernel_rfl) (fun _ _ _ h => h) (Or.inl ⟨by rfl, ?hq1_20⟩) (by assumption) ?rq1_20
        case hq1_20 => (intro wS hSw; (try dsimp only at hSw); go_simp; try (with_reducible rfl))
        (try simp only [Act.put, List.setIfInBounds_toArray, List.set_cons_zero, List.set_cons_succ])
        refine take_d (i := 20) (v := ?vq1_21) rfl (by rfl) (by kernel_rfl) (by kernel_rfl) (by kernel_rfl) (fun _ _ _ h => h) (Or.inl ⟨by rfl, ?hq1_21⟩) (by assumption) ?rq1_21
        case hq1_21 => (intro wS hSw; (try dsimp only at hSw); go_simp; try (with_reducible rfl))
        (try simp only [Act.put, List.setIfInBounds_toArray, List.set_cons_zero, List.set_cons_succ])
        refine take_d (i := 21) (v := ?vq1_22) rfl (by rfl) (by kernel_rfl) (by kernel_rfl) (by kernel_rfl) (fun _ _ _ h => h) (Or.inl ⟨by rfl, ?hq1_22⟩) (by assumption) ?rq1_22
        case hq1_22 => (intro wS hSw; (try dsimp only at hSw); go_simp; try (with_reducible rfl))
        (try simp only [Act.put, List.setIfInBounds_toArray, List.set_cons_zero, List.set_cons_succ])
        refine take_d (i := 22) (v := ?vq1_23) rfl (by rfl) (by kernel_rfl) (by kernel_rfl) (by kernel_rfl) (fun _ _ _ h => h) (Or.inl ⟨by rfl, ?hq1_23⟩) (by assumption) ?rq1_23
        case hq1_23 => (intro wS hSw; (try dsimp only at hSw); go_simp; try (with_reducible rfl))
        (try simp only [Act.put, List.setIfInBounds_toArray, List.set_cons_zero, List.set_cons_succ])
        refine wpAnyH_done (by kernel_rfl) ?_ _
        clear JA0 JA1 JAl JB0 JB1 JBl JC0 JC1 JCl JJ0 JJ1 JJl JM0 JM1 JMl lB
        generalize wq1_19 = w16 at hBk ⊢
        replace JA := JA.below hBk
        replace JB := JB.below hBk
        replace JC := JC.below hBk
        replace JJ := JJ.below hBk
        replace JM := JM.below hBk
        replace B := below_next B hBk
        clear hBk
        go_wp2
        go_ret
        exact ⟨rfl, B⟩
      · skip
        have JA0 := JA.2.1
        have JA1 := JA.2.2
        have JAl := JA.1
        have JB0 := JB.2.1
        have JB1 := JB.2.2
        have JBl := JB.1
        have JC0 := JC.2.1
        have JC1 := JC.2.2
        have JCl := JC.1
        have JJ0 := JJ.2.1
        have JJ1 := JJ.2.2
        have JJl := JJ.1
        have JM0 := JM.2.1
        have JM1 := JM.2.2
        have JMl := JM.1
        have lB := B.size
        go_wp2_with fail
        refine (Icb.out _).mono ?_
        rintro e w16 ⟨rfl, z⟩
        clear JA0 JA1 JAl JB0 JB1 JBl JC0 JC1 JCl JJ0 JJ1 JJl JM0 JM1 JMl lB
        replace JA := JA.below z
        replace JB := JB.below z
        replace JC := JC.below z
        replace JJ := JJ.below z
        replace JM := JM.below z
        replace B := below_next B z
        clear z
        cases cb
        · skip
          have hce := hce.out
          have JA0 := JA.2.1
          have JA1 := JA.2.2
          have JAl := JA.1
          have JB0 := JB.2.1
          have JB1 := JB.2.2
          have JBl := JB.1
          have JC0 := JC.2.1
          have JC1 := JC.2.2
          have JCl := JC.1
          have JJ0 := JJ.2.1
          have JJ1 := JJ.2.2
          have JJl := JJ.1
          have JM0 := JM.2.1
          have JM1 := JM.2.2
          have JMl := JM.1
          have lB := B.size
          go_wp2_with fail
          refine wp_region_held_drew (S := (fun w' : World => Below w16.heap.size w16 w')) (by kernel_rfl) ?_ (fun hHeld => ?_)
          · (try dsimp only); first | (with_reducible exact below_dr _) | (with_reducible exact Below.refl _ _) | exact below_dr _
          have hBk := below_dr w16
          refine take_d (i := 0) (v := ?vq2_1) rfl (by rfl) (by kernel_rfl) (by kernel_rfl) (by kernel_rfl) (fun _ _ _ h => h) (Or.inl ⟨by rfl, ?hq2_1⟩) (by assumption) ?rq2_1
          case hq2_1 => (intro wS hSw; (try dsimp only at hSw); have hcq0 := cn hSw JA0; have hcq1 := cn hSw JA1; go_simp; try (with_reducible rfl))
          (try simp only [Act.put, List.setIfInBounds_toArray, List.set_cons_zero, List.set_cons_succ])
          refine take_d (i := 1) (v := ?vq2_2) rfl (by rfl) (by kernel_rfl) (by kernel_rfl) (by kernel_rfl) (fun _ _ _ h => h) (Or.inl ⟨by rfl, ?hq2_2⟩) (by assumption) ?rq2_2
          case hq2_2 => (intro wS hSw; (try dsimp only at hSw); go_simp; try (with_reducible rfl))
          (try simp only [Act.put, List.setIfInBounds_toArray, List.set_cons_zero, List.set_cons_succ])
          refine take_d (i := 2) (v := ?vq2_3) rfl (by rfl) (by kernel_rfl) (by kernel_rfl) (by kernel_rfl) (fun _ _ _ h => h) (Or.inl ⟨by rfl, ?hq2_3⟩) (by assumption) ?rq2_3
          case hq2_3 => (intro wS hSw; (try dsimp only at hSw); have hcq0 := cn hSw JA0; have hcq1 := cn hSw JA1; go_simp; try (with_reducible rfl))
          (try simp only [Act.put, List.setIfInBounds_toArray, List.set_cons_zero, List.set_cons_succ])
          refine wpAnyH_ready (rs := [3]) (by kernel_rfl) (by simp) ?_
          refine AllReadyH.cons rfl (fun K hK => ?_) AllReadyH.nil
          go_simp
          go_at_call 46
          refine (HL.out _).mono ?_
          rintro e wq2_4 ⟨rfl, bkq2_4⟩
          have hBn := below_next hBk bkq2_4
          clear hBk bkq2_4
          have hBk := hBn
          clear hBn
          try go_simp
          refine hK.out _ _ ?_ (fun hHeld => ?_)
          · (try dsimp only); exact hBk
          clear hK K
          (try simp only [Act.put, List.setIfInBounds_toArray, List.set_cons_zero, List.set_cons_succ])
          refine take_d (i := 4) (v := ?vq2_5) rfl (by rfl) (by kernel_rfl) (by kernel_rfl) (by kernel_rfl) (fun _ _ _ h => h) (Or.inl ⟨by rfl, ?hq2_5⟩) (by assumption) ?rq2_5
          case hq2_5 => (intro wS hSw; (try dsimp only at hSw); go_simp; try (with_reducible rfl))
          (try simp only [Act.put, List.setIfInBounds_toArray, List.set_cons_zero, List.set_cons_succ])
          refine take_d (i := 5) (v := ?vq2_6) rfl (by rfl) (by kernel_rfl) (by kernel_rfl) (by kernel_rfl) (fun _ _ _ h => h) (Or.inl ⟨by rfl, ?hq2_6⟩) (by assumption) ?rq2_6
          case hq2_6 => (intro wS hSw; (try dsimp only at hSw); have hcq0 := cn hSw JA0; have hcq1 := cn hSw JA1; go_simp; try (with_reducible rfl))
          (try simp only [Act.put, List.setIfInBounds_toArray, List.set_cons_zero, List.set_cons_succ])
          refine take_d (i := 6) (v := ?vq2_7) rfl (by rfl) (by kernel_rfl) (by kernel_rfl) (by kernel_rfl) (fun _ _ _ h => h) (Or.inl ⟨by rfl, ?hq2_7⟩) (by assumption) ?rq2_7
          case hq2_7 => (intro wS hSw; (try dsimp only at hSw); go_simp; try (with_reducible rfl))
          (try simp only [Act.put, List.setIfInBounds_toArray, List.set_cons_zero, List.set_cons_succ])
          refine take_d (i := 7) (v := ?vq2_8) rfl (by rfl) (by kernel_rfl) (by kernel_rfl) (by kernel_rfl) (fun _ _ _ h => h) (Or.inl ⟨by rfl, ?hq2_8⟩) (by assumption) ?rq2_8
          case hq2_8 => (intro wS hSw; (try dsimp only at hSw); have hcq0 := cn hSw JA0; have hcq1 := cn hSw JA1; go_simp; try (with_reducible rfl))
          (try simp only [Act.put, List.setIfInBounds_toArray, List.set_cons_zero, List.set_cons_succ])
          refine take_d (i := 8) (v := ?vq2_9) rfl (by rfl) (by kernel_rfl) (by kernel_rfl) (by kernel_rfl) (fun _ _ _ h => h) (Or.inl ⟨by rfl, ?hq2_9⟩) (by assumption) ?rq2_9
          case hq2_9 => (intro wS hSw; (try dsimp only at hSw); go_simp; try (with_reducible rfl))
          (try simp only [Act.put, List.setIfInBounds_toArray, List.set_cons_zero, List.set_cons_succ])
          refine take_d (i := 9) (v := ?vq2_10) rfl (by rfl) (by kernel_rfl) (by kernel_rfl) (by kernel_rfl) (fun _ _ _ h => h) (Or.inl ⟨by rfl, ?hq2_10⟩) (by assumption) ?rq2_10
          case hq2_10 => (intro wS hSw; (try dsimp only at hSw); have hcq0 := cn hSw JA0; have hcq1 := cn hSw JA1; go_simp; try (with_reducible rfl))
          (try simp only [Act.put, List.setIfInBounds_toArray, List.set_cons_zero, List.set_cons_succ])
          refine take_d (i := 10) (v := ?vq2_11) rfl (by rfl) (by kernel_rfl) (by kernel_rfl) (by kernel_rfl) (fun _ _ _ h => h) (Or.inl ⟨by rfl, ?hq2_11⟩) (by assumption) ?rq2_11
          case hq2_11 => (intro wS hSw; (try dsimp only at hSw); go_simp; try (with_reducible rfl))
          (try simp only [Act.put, List.setIfInBounds_toArray, List.set_cons_zero, List.set_cons_succ])
          refine wpAnyH_ready (rs := [11]) (by kernel_rfl) (by simp) ?_
          refine AllReadyH.cons rfl (fun K hK => ?_) AllReadyH.nil
          go_simp
          go_at_call 46
          refine (HT.out _).mono ?_
          rintro e wq2_12 ⟨rfl, bkq2_12⟩
          have hBn := below_next hBk bkq2_12
          clear hBk bkq2_12
          have hBk := hBn
          clear hBn
          try go_simp
          refine hK.out _ _ ?_ (fun hHeld => ?_)
          · (try dsimp only); exact hBk
          clear hK K
          (try simp only [Act.put, List.setIfInBounds_toArray, List.set_cons_zero, List.set_cons_succ])
          refine take_d (i := 12) (v := ?vq2_13) rfl (by rfl) (by kernel_rfl) (by kernel_rfl) (by kernel_rfl) (fun _ _ _ h => h) (Or.inl ⟨by rfl, ?hq2_13⟩) (by assumption) ?rq2_13
          case hq2_13 => (intro wS hSw; (try dsimp only at hSw); go_simp; try (with_reducible rfl))
          (try simp only [Act.put, List.setIfInBounds_toArray, List.set_cons_zero, List.set_cons_succ])
          refine take_d (i := 13) (v := ?vq2_14) rfl (by rfl) (by kernel_rfl) (by kernel_rfl) (by kernel_rfl) (fun _ _ _ h => h) (Or.inl ⟨by rfl, ?hq2_14⟩) (by assumption) ?rq2_14
          case hq2_14 => (intro wS hSw; (try dsimp only at hSw); go_simp; try (with_reducible rfl))
          (try simp only [Act.put, List.setIfInBounds_toArray, List.set_cons_zero, List.set_cons_succ])
          refine take_d (i := 14) (v := ?vq2_15) rfl (by rfl) (by kernel_rfl) (by kernel_rfl) (by kernel_rfl) (fun _ _ _ h => h) (Or.inl ⟨by rfl, ?hq2_15⟩) (by assumption) ?rq2_15
          case hq2_15 => (intro wS hSw; (try dsimp only at hSw); have hcq0 := cn hSw JA0; have hcq1 := cn hSw JA1; go_simp; try (with_reducible rfl))
          (try simp only [Act.put, List.setIfInBounds_toArray, List.set_cons_zero, List.set_cons_succ])
          refine take_d (i := 17) (v := ?vq2_16) rfl (by rfl) (by kernel_rfl) (by kernel_rfl) (by kernel_rfl) (fun _ _ _ h => h) (Or.inl ⟨by rfl, ?hq2_16⟩) (by assumption) ?rq2_16
          case hq2_16 => (intro wS hSw; (try dsimp only at hSw); go_simp; try (with_reducible rfl))
          (try simp only [Act.put, List.setIfInBounds_toArray, List.set_cons_zero, List.set_cons_succ])
          refine take_d (i := 18) (v := ?vq2_17) rfl (by rfl) (by kernel_rfl) (by kernel_rfl) (by kernel_rfl) (fun _ _ _ h => h) (Or.inl ⟨by rfl, ?hq2_17⟩) (by assumption) ?rq2_17
          case hq2_17 => (intro wS hSw; (try dsimp only at hSw); have hcq0 := cn hSw JA0; have hcq1 := cn hSw JA1; go_simp; try (with_reducible rfl))
          (try simp only [Act.put, List.setIfInBounds_toArray, List.set_cons_zero, List.set_cons_succ])
          refine take_d (i := 19) (v := ?vq2_18) rfl (by rfl) (by kernel_rfl) (by kernel_rfl) (by kernel_rfl) (fun _ _ _ h => h) (Or.inl ⟨by rfl, ?hq2_18⟩) (by assumption) ?rq2_18
          case hq2_18 => (intro wS hSw; (try dsimp only at hSw); go_simp; try (with_reducible rfl))
          (try simp only [Act.put, List.setIfInBounds_toArray, List.set_cons_zero, List.set_cons_succ])
          refine wpAnyH_ready (rs := [15]) (by kernel_rfl) (by simp) ?_
          refine AllReadyH.cons rfl (fun K hK => ?_) AllReadyH.nil
          go_simp
          go_at_call 49
          refine (FR.out _).mono ?_
          rintro e wq2_19 ⟨rfl, bkq2_19⟩
          have hBn := below_next hBk bkq2_19
          clear hBk bkq2_19
          have hBk := hBn
          clear hBn
          try go_simp
          refine hK.out _ _ ?_ (fun hHeld => ?_)
          · (try dsimp only); exact hBk
          clear hK K
          (try simp only [Act.put, List.setIfInBounds_toArray, List.set_cons_zero, List.set_cons_succ])
          refine take_d (i := 16) (v := ?vq2_20) rfl (by rfl) (by kernel_rfl) (by kernel_rfl) (by kernel_rfl) (fun _ _ _ h => h) (Or.inl ⟨by rfl, ?hq2_20⟩) (by assumption) ?rq2_20
          case hq2_20 => (intro wS hSw; (try dsimp only at hSw); go_simp; try (with_reducible rfl))
          (try simp only [Act.put, List.setIfInBounds_toArray, List.set_cons_zero, List.set_cons_succ])
          refine take_d (i := 20) (v := ?vq2_21) rfl (by rfl) (by kernel_rfl) (by kernel_rfl) (by kernel_rfl) (fun _ _ _ h => h) (Or.inl ⟨by rfl, ?hq2_21⟩) (by assumption) ?rq2_21
          case hq2_21 => (intro wS hSw; (try dsimp only at hSw); go_simp; try (with_reducible rfl))
          (try simp only [Act.put, List.setIfInBounds_toArray, List.set_cons_zero, List.set_cons_succ])
          refine take_d (i := 21) (v := ?vq2_22) rfl (by rfl) (by kernel_rfl) (by kernel_rfl) (by kernel_rfl) (fun _ _ _ h => h) (Or.inl ⟨by rfl, ?hq2_22⟩) (by assumption) ?rq2_22
          case hq2_22 => (intro wS hSw; (try dsimp only at hSw); go_simp; try (with_reducible rfl))
          (try simp only [Act.put, List.setIfInBounds_toArray, List.set_cons_zero, List.set_cons_succ])
          refine take_d (i := 22) (v := ?vq2_23) rfl (by rfl) (by kernel_rfl) (by kernel_rfl) (by kernel_rfl) (fun _ _ _ h => h) (Or.inl ⟨by rfl, ?hq2_23⟩) (by assumption) ?rq2_23
          case hq2_23 => (intro wS hSw; (try dsimp only at hSw); go_simp; try (with_reducible rfl))
          (try simp only [Act.put, List.setIfInBounds_toArray, List.set_cons_zero, List.set_cons_succ])
          refine wpAnyH_done (by kernel_rfl) ?_ _
          clear JA0 JA1 JAl JB0 JB1 JBl JC0 JC1 JCl JJ0 JJ1 JJl JM0 JM1 JMl lB
          generalize wq2_19 = w17 at hBk ⊢
          replace JA := JA.below hBk
          replace JB := JB.below hBk
          replace JC := JC.below hBk
          replace JJ := JJ.below hBk
          replace JM := JM.below hBk
          replace B := below_next B hBk
          clear hBk
          go_wp2
          go_ret
          exact ⟨rfl, B⟩
        · skip
          obtain rfl : cm = true := (cM.out (by trivial) (by trivial)).2
          have JA0 := JA.2.1
          have JA1 := JA.2.2
          have JAl := JA.1
          have JB0 := JB.2.1
          have JB1 := JB.2.2
          have JBl := JB.1
          have JC0 := JC.2.1
          have JC1 := JC.2.2
          have JCl := JC.1
          have JJ0 := JJ.2.1
          have JJ1 := JJ.2.2
          have JJl := JJ.1
          have JM0 := JM.2.1
          have JM1 := JM.2.2
          have JMl := JM.1
          have lB := B.size
          go_wp2_with fail
          refine (Icm.out _).mono ?_
          rintro e w17 ⟨rfl, z⟩
          clear JA0 JA1 JAl JB0 JB1 JBl JC0 JC1 JCl JJ0 JJ1 JJl JM0 JM1 JMl lB
          replace JA := JA.below z
          replace JB := JB.below z
          replace JC := JC.below z
          replace JJ := JJ.below z
          replace JM := JM.below z
          replace B := below_next B z
          clear z
          have hce := hce.out
          have JA0 := JA.2.1
          have JA1 := JA.2.2
          have JAl := JA.1
          have JB0 := JB.2.1
          have JB1 := JB.2.2
          have JBl := JB.1
          have JC0 := JC.2.1
          have JC1 := JC.2.2
          have JCl := JC.1
          have JJ0 := JJ.2.1
          have JJ1 := JJ.2.2
          have JJl := JJ.1
          have JM0 := JM.2.1
          have JM1 := JM.2.2
          have JMl := JM.1
          have lB := B.size
          go_wp2_with fail
          refine wp_region_held_drew (S := (fun w' : World => Below w17.heap.size w17 w')) (by kernel_rfl) ?_ (fun hHeld => ?_)
          · (try dsimp only); first | (with_reducible exact below_dr _) | (with_reducible exact Below.refl _ _) | exact below_dr _
          have hBk := below_dr w17
          refine take_d (i := 0) (v := ?vq3_1) rfl (by rfl) (by kernel_rfl) (by kernel_rfl) (by kernel_rfl) (fun _ _ _ h => h) (Or.inl ⟨by rfl, ?hq3_1⟩) (by assumption) ?rq3_1
          case hq3_1 => (intro wS hSw; (try dsimp only at hSw); have hcq0 := cn hSw JA0; have hcq1 := cn hSw JA1; go_simp; try (with_reducible rfl))
          (try simp only [Act.put, List.setIfInBounds_toArray, List.set_cons_zero, List.set_cons_succ])
          refine take_d (i := 1) (v := ?vq3_2) rfl (by rfl) (by kernel_rfl) (by kernel_rfl) (by kernel_rfl) (fun _ _ _ h => h) (Or.inl ⟨by rfl, ?hq3_2⟩) (by assumption) ?rq3_2
          case hq3_2 => (intro wS hSw; (try dsimp only at hSw); go_simp; try (with_reducible rfl))
          (try simp only [Act.put, List.setIfInBounds_toArray, List.set_cons_zero, List.set_cons_succ])
          refine take_d (i := 2) (v := ?vq3_3) rfl (by rfl) (by kernel_rfl) (by kernel_rfl) (by kernel_rfl) (fun _ _ _ h => h) (Or.inl ⟨by rfl, ?hq3_3⟩) (by assumption) ?rq3_3
          case hq3_3 => (intro wS hSw; (try dsimp only at hSw); have hcq0 := cn hSw JA0; have hcq1 := cn hSw JA1; go_simp; try (with_reducible rfl))
          (try simp only [Act.put, List.setIfInBounds_toArray, List.set_cons_zero, List.set_cons_succ])
          refine wpAnyH_ready (rs := [3]) (by kernel_rfl) (by simp) ?_
          refine AllReadyH.cons rfl (fun K hK => ?_) AllReadyH.nil
          go_simp
          go_at_call 46
          refine (HL.out _).mono ?_
          rintro e wq3_4 ⟨rfl, bkq3_4⟩
          have hBn := below_next hBk bkq3_4
          clear hBk bkq3_4
          have hBk := hBn
          clear hBn
          try go_simp
          refine hK.out _ _ ?_ (fun hHeld => ?_)
          · (try dsimp only); exact hBk
          clear hK K
          (try simp only [Act.put, List.setIfInBounds_toArray, List.set_cons_zero, List.set_cons_succ])
          refine take_d (i := 4) (v := ?vq3_5) rfl (by rfl) (by kernel_rfl) (by kernel_rfl) (by kernel_rfl) (fun _ _ _ h => h) (Or.inl ⟨by rfl, ?hq3_5⟩) (by assumption) ?rq3_5
          case hq3_5 => (intro wS hSw; (try dsimp only at hSw); go_simp; try (with_reducible rfl))
          (try simp only [Act.put, List.setIfInBounds_toArray, List.set_cons_zero, List.set_cons_succ])
          refine take_d (i := 5) (v := ?vq3_6) rfl (by rfl) (by kernel_rfl) (by kernel_rfl) (by kernel_rfl) (fun _ _ _ h => h) (Or.inl ⟨by rfl, ?hq3_6⟩) (by assumption) ?rq3_6
          case hq3_6 => (intro wS hSw; (try dsimp only at hSw); have hcq0 := cn hSw JA0; have hcq1 := cn hSw JA1; go_simp; try (with_reducible rfl))
          (try simp only [Act.put, List.setIfInBounds_toArray, List.set_cons_zero, List.set_cons_succ])
          refine take_d (i := 6) (v := ?vq3_7) rfl (by rfl) (by kernel_rfl) (by kernel_rfl) (by kernel_rfl) (fun _ _ _ h => h) (Or.inl ⟨by rfl, ?hq3_7⟩) (by assumption) ?rq3_7
          case hq3_7 => (intro wS hSw; (try dsimp only at hSw); go_simp; try (with_reducible rfl))
          (try simp only [Act.put, List.setIfInBounds_toArray, List.set_cons_zero, List.set_cons_succ])
          refine take_d (i := 7) (v := ?vq3_8) rfl (by rfl) (by kernel_rfl) (by kernel_rfl) (by kernel_rfl) (fun _ _ _ h => h) (Or.inl ⟨by rfl, ?hq3_8⟩) (by assumption) ?rq3_8
          case hq3_8 => (intro wS hSw; (try dsimp only at hSw); have hcq0 := cn hSw JA0; have hcq1 := cn hSw JA1; go_simp; try (with_reducible rfl))
          (try simp only [Act.put, List.setIfInBounds_toArray, List.set_cons_zero, List.set_cons_succ])
          refine take_d (i := 8) (v := ?vq3_9) rfl (by rfl) (by kernel_rfl) (by kernel_rfl) (by kernel_rfl) (fun _ _ _ h => h) (Or.inl ⟨by rfl, ?hq3_9⟩) (by assumption) ?rq3_9
          case hq3_9 => (intro wS hSw; (try dsimp only at hSw); go_simp; try (with_reducible rfl))
          (try simp only [Act.put, List.setIfInBounds_toArray, List.set_cons_zero, List.set_cons_succ])
          refine take_d (i := 9) (v := ?vq3_10) rfl (by rfl) (by kernel_rfl) (by kernel_rfl) (by kernel_rfl) (fun _ _ _ h => h) (Or.inl ⟨by rfl, ?hq3_10⟩) (by assumption) ?rq3_10
          case hq3_10 => (intro wS hSw; (try dsimp only at hSw); have hcq0 := cn hSw JA0; have hcq1 := cn hSw JA1; go_simp; try (with_reducible rfl))
          (try simp only [Act.put, List.setIfInBounds_toArray, List.set_cons_zero, List.set_cons_succ])
          refine take_d (i := 10) (v := ?vq3_11) rfl (by rfl) (by kernel_rfl) (by kernel_rfl) (by kernel_rfl) (fun _ _ _ h => h) (Or.inl ⟨by rfl, ?hq3_11⟩) (by assumption) ?rq3_11
          case hq3_11 => (intro wS hSw; (try dsimp only at hSw); go_simp; try (with_reducible rfl))
          (try simp only [Act.put, List.setIfInBounds_toArray, List.set_cons_zero, List.set_cons_succ])
          refine wpAnyH_ready (rs := [11]) (by kernel_rfl) (by simp) ?_
          refine AllReadyH.cons rfl (fun K hK => ?_) AllReadyH.nil
          go_simp
          go_at_call 46
          refine (HT.out _).mono ?_
          rintro e wq3_12 ⟨rfl, bkq3_12⟩
          have hBn := below_next hBk bkq3_12
          clear hBk bkq3_12
          have hBk := hBn
          clear hBn
          try go_simp
          refine hK.out _ _ ?_ (fun hHeld => ?_)
          · (try dsimp only); exact hBk
          clear hK K
          (try simp only [Act.put, List.setIfInBounds_toArray, List.set_cons_zero, List.set_cons_succ])
          refine take_d (i := 12) (v := ?vq3_13) rfl (by rfl) (by kernel_rfl) (by kernel_rfl) (by kernel_rfl) (fun _ _ _ h => h) (Or.inl ⟨by rfl, ?hq3_13⟩) (by assumption) ?rq3_13
          case hq3_13 => (intro wS hSw; (try dsimp only at hSw); go_simp; try (with_reducible rfl))
          (try simp only [Act.put, List.setIfInBounds_toArray, List.set_cons_zero, List.set_cons_succ])
          refine take_d (i := 13) (v := ?vq3_14) rfl (by rfl) (by kernel_rfl) (by kernel_rfl) (by kernel_rfl) (fun _ _ _ h => h) (Or.inl ⟨by rfl, ?hq3_14⟩) (by assumption) ?rq3_14
          case hq3_14 => (intro wS hSw; (try dsimp only at hSw); go_simp; try (with_reducible rfl))
          (try simp only [Act.put, List.setIfInBounds_toArray, List.set_cons_zero, List.set_cons_succ])
          refine take_d (i := 14) (v := ?vq3_15) rfl (by rfl) (by kernel_rfl) (by kernel_rfl) (by kernel_rfl) (fun _ _ _ h => h) (Or.inl ⟨by rfl, ?hq3_15⟩) (by assumption) ?rq3_15
          case hq3_15 => (intro wS hSw; (try dsimp only at hSw); have hcq0 := cn hSw JA0; have hcq1 := cn hSw JA1; go_simp; try (with_reducible rfl))
          (try simp only [Act.put, List.setIfInBounds_toArray, List.set_cons_zero, List.set_cons_succ])
          refine take_d (i := 17) (v := ?vq3_16) rfl (by rfl) (by kernel_rfl) (by kernel_rfl) (by kernel_rfl) (fun _ _ _ h => h) (Or.inl ⟨by rfl, ?hq3_16⟩) (by assumption) ?rq3_16
          case hq3_16 => (intro wS hSw; (try dsimp only at hSw); go_simp; try (with_reducible rfl))
          (try simp only [Act.put, List.setIfInBounds_toArray, List.set_cons_zero, List.set_cons_succ])
          refine take_d (i := 18) (v := ?vq3_17) rfl (by rfl) (by kernel_rfl) (by kernel_rfl) (by kernel_rfl) (fun _ _ _ h => h) (Or.inl ⟨by rfl, ?hq3_17⟩) (by assumption) ?rq3_17
          case hq3_17 => (intro wS hSw; (try dsimp only at hSw); have hcq0 := cn hSw JA0; have hcq1 := cn hSw JA1; go_simp; try (with_reducible rfl))
          (try simp only [Act.put, List.setIfInBounds_toArray, List.set_cons_zero, List.set_cons_succ])
          refine take_d (i := 19) (v := ?vq3_18) rfl (by rfl) (by kernel_rfl) (by kernel_rfl) (by kernel_rfl) (fun _ _ _ h => h) (Or.inl ⟨by rfl, ?hq3_18⟩) (by assumption) ?rq3_18
          case hq3_18 => (intro wS hSw; (try dsimp only at hSw); go_simp; try (with_reducible rfl))
          (try simp only [Act.put, List.setIfInBounds_toArray, List.set_cons_zero, List.set_cons_succ])
          refine wpAnyH_ready (rs := [15]) (by kernel_rfl) (by simp) ?_
          refine AllReadyH.cons rfl (fun K hK => ?_) AllReadyH.nil
          go_simp
          go_at_call 49
          refine (FR.out _).mono ?_
          rintro e wq3_19 ⟨rfl, bkq3_19⟩
          have hBn := below_next hBk bkq3_19
          clear hBk bkq3_19
          have hBk := hBn
          clear hBn
          try go_simp
          refine hK.out _ _ ?_ (fun hHeld => ?_)
          · (try dsimp only); exact hBk
          clear hK K
          (try simp only [Act.put, List.setIfInBounds_toArray, List.set_cons_zero, List.set_cons_succ])
          refine take_d (i := 16) (v := ?vq3_20) rfl (by rfl) (by kernel_rfl) (by kernel_rfl) (by kernel_rfl) (fun _ _ _ h => h) (Or.inl ⟨by rfl, ?hq3_20⟩) (by assumption) ?rq3_20
          case hq3_20 => (intro wS hSw; (try dsimp only at hSw); go_simp; try (with_reducible rfl))
          (try simp only [Act.put, List.setIfInBounds_toArray, List.set_cons_zero, List.set_cons_succ])
          refine take_d (i := 20) (v := ?vq3_21) rfl (by rfl) (by kernel_rfl) (by kernel_rfl) (by kernel_rfl) (fun _ _ _ h => h) (Or.inl ⟨by rfl, ?hq3_21⟩) (by assumption) ?rq3_21
          case hq3_21 => (intro wS hSw; (try dsimp only at hSw); go_simp; try (with_reducible rfl))
          (try simp only [Act.put, List.setIfInBounds_toArray, List.set_cons_zero, List.set_cons_succ])
          refine take_d (i := 21) (v := ?vq3_22) rfl (by rfl) (by kernel_rfl) (by kernel_rfl) (by kernel_rfl) (fun _ _ _ h => h) (Or.inl ⟨by rfl, ?hq3_22⟩) (by assumption) ?rq3_22
          case hq3_22 => (intro wS hSw; (try dsimp only at hSw); go_simp; try (with_reducible rfl))
          (try simp only [Act.put, List.setIfInBounds_toArray, List.set_cons_zero, List.set_cons_succ])
          refine take_d (i := 22) (v := ?vq3_23) rfl (by rfl) (by kernel_rfl) (by kernel_rfl) (by kernel_rfl) (fun _ _ _ h => h) (Or.inl ⟨by rfl, ?hq3_23⟩) (by assumption) ?rq3_23
          case hq3_23 => (intro wS hSw; (try dsimp only at hSw); go_simp; try (with_reducible rfl))
          (try simp only [Act.put, List.setIfInBounds_toArray, List.set_cons_zero, List.set_cons_succ])
          refine wpAnyH_done (by kernel_rfl) ?_ _
          clear JA0 JA1 JAl JB0 JB1 JBl JC0 JC1 JCl JJ0 JJ1 JJl JM0 JM1 JMl lB
          generalize wq3_19 = w18 at hBk ⊢
          replace JA := JA.below hBk
          replace JB := JB.below hBk
          replace JC := JC.below hBk
          replace JJ := JJ.below hBk
          replace JM := JM.below hBk
          replace B := below_next B hBk
          clear hBk
          go_wp2
          go_ret
          exact ⟨rfl, B⟩
    · skip
      clear mA mB
      have hNo : ca = true → cb = false := fun h => by
        cases hh : cb
        · rfl
        · exact absurd (cM.out h hh).1 (by decide)
      replace hNo := hid hNo
      clear cM
      have JA0 := JA.2.1
      have JA1 := JA.2.2
      have JAl := JA.1
      have JB0 := JB.2.1
      have JB1 := JB.2.2
      have JBl := JB.1
      have JC0 := JC.2.1
      have JC1 := JC.2.2
      have JCl := JC.1
      have JJ0 := JJ.2.1
      have JJ1 := JJ.2.2
      have JJl := JJ.1
      have lB := B.size
      go_wp2_with fail
      clear JA0 JA1 JAl JB0 JB1 JBl JC0 JC1 JCl JJ0 JJ1 JJl lB
      have JM : TC (w11.alloc (.cells #[.int .u64 (ub t0.1), .int .u64 (ub t0.2)] 24)) w11.heap.size t0 := TC.new rfl
      replace JA := JA.alloc (.cells #[.int .u64 (ub t0.1), .int .u64 (ub t0.2)] 24)
      replace JB := JB.alloc (.cells #[.int .u64 (ub t0.1), .int .u64 (ub t0.2)] 24)
      replace JC := JC.alloc (.cells #[.int .u64 (ub t0.1), .int .u64 (ub t0.2)] 24)
      replace JJ := JJ.alloc (.cells #[.int .u64 (ub t0.1), .int .u64 (ub t0.2)] 24)
      replace B := Below.alloc B B.size (.cells #[.int .u64 (ub t0.1), .int .u64 (ub t0.2)] 24)
      generalize w11.alloc (.cells #[.int .u64 (ub t0.1), .int .u64 (ub t0.2)] 24) = w12 at *
      generalize w11.heap.size = g2 at *
      have JA0 := JA.2.1
      have JA1 := JA.2.2
      have JAl := JA.1
      have JB0 := JB.2.1
      have JB1 := JB.2.2
      have JBl := JB.1
      have JC0 := JC.2.1
      have JC1 := JC.2.2
      have JCl := JC.1
      have JJ0 := JJ.2.1
      have JJ1 := JJ.2.2
      have JJl := JJ.1
      have JM0 := JM.2.1
      have JM1 := JM.2.2
      have JMl := JM.1
      have lB := B.size
      go_wp2_with fail
      refine (Ica.out _).mono ?_
      rintro e w13 ⟨rfl, z⟩
      clear JA0 JA1 JAl JB0 JB1 JBl JC0 JC1 JCl JJ0 JJ1 JJl JM0 JM1 JMl lB
      replace JA := JA.below z
      replace JB := JB.below z
      replace JC := JC.below z
      replace JJ := JJ.below z
      replace JM := JM.below z
      replace B := below_next B z
      clear z
      cases ca
      · skip
        have hce := hce.out
        have JA0 := JA.2.1
        have JA1 := JA.2.2
        have JAl := JA.1
        have JB0 := JB.2.1
        have JB1 := JB.2.2
        have JBl := JB.1
        have JC0 := JC.2.1
        have JC1 := JC.2.2
        have JCl := JC.1
        have JJ0 := JJ.2.1
        have JJ1 := JJ.2.2
        have JJl := JJ.1
        have JM0 := JM.2.1
        have JM1 := JM.2.2
        have JMl := JM.1
        have lB := B.size
        go_wp2_with fail
        refine wp_region_held_drew (S := (fun w' : World => Below w13.heap.size w13 w')) (by kernel_rfl) ?_ (fun hHeld => ?_)
        · (try dsimp only); first | (with_reducible exact below_dr _) | (with_reducible exact Below.refl _ _) | exact below_dr _
        have hBk := below_dr w13
        refine take_d (i := 0) (v := ?vq4_1) rfl (by rfl) (by kernel_rfl) (by kernel_rfl) (by kernel_rfl) (fun _ _ _ h => h) (Or.inl ⟨by rfl, ?hq4_1⟩) (by assumption) ?rq4_1
        case hq4_1 => (intro wS hSw; (try dsimp only at hSw); have hcq0 := cn hSw JA0; have hcq1 := cn hSw JA1; go_simp; try (with_reducible rfl))
        (try simp only [Act.put, List.setIfInBounds_toArray, List.set_cons_zero, List.set_cons_succ])
        refine take_d (i := 1) (v := ?vq4_2) rfl (by rfl) (by kernel_rfl) (by kernel_rfl) (by kernel_rfl) (fun _ _ _ h => h) (Or.inl ⟨by rfl, ?hq4_2⟩) (by assumption) ?rq4_2
        case hq4_2 => (intro wS hSw; (try dsimp only at hSw); go_simp; try (with_reducible rfl))
        (try simp only [Act.put, List.setIfInBounds_toArray, List.set_cons_zero, List.set_cons_succ])
        refine take_d (i := 2) (v := ?vq4_3) rfl (by rfl) (by kernel_rfl) (by kernel_rfl) (by kernel_rfl) (fun _ _ _ h => h) (Or.inl ⟨by rfl, ?hq4_3⟩) (by assumption) ?rq4_3
        case hq4_3 => (intro wS hSw; (try dsimp only at hSw); have hcq0 := cn hSw JA0; have hcq1 := cn hSw JA1; go_simp; try (with_reducible rfl))
        (try simp only [Act.put, List.setIfInBounds_toArray, List.set_cons_zero, List.set_cons_succ])
        refine wpAnyH_ready (rs := [3]) (by kernel_rfl) (by simp) ?_
        refine AllReadyH.cons rfl (fun K hK => ?_) AllReadyH.nil
        go_simp
        go_at_call 46
        refine (HL.out _).mono ?_
        rintro e wq4_4 ⟨rfl, bkq4_4⟩
        have hBn := below_next hBk bkq4_4
        clear hBk bkq4_4
        have hBk := hBn
        clear hBn
        try go_simp
        refine hK.out _ _ ?_ (fun hHeld => ?_)
        · (try dsimp only); exact hBk
        clear hK K
        (try simp only [Act.put, List.setIfInBounds_toArray, List.set_cons_zero, List.set_cons_succ])
        refine take_d (i := 4) (v := ?vq4_5) rfl (by rfl) (by kernel_rfl) (by kernel_rfl) (by kernel_rfl) (fun _ _ _ h => h) (Or.inl ⟨by rfl, ?hq4_5⟩) (by assumption) ?rq4_5
        case hq4_5 => (intro wS hSw; (try dsimp only at hSw); go_simp; try (with_reducible rfl))
        (try simp only [Act.put, List.setIfInBounds_toArray, List.set_cons_zero, List.set_cons_succ])
        refine take_d (i := 5) (v := ?vq4_6) rfl (by rfl) (by kernel_rfl) (by kernel_rfl) (by kernel_rfl) (fun _ _ _ h => h) (Or.inl ⟨by rfl, ?hq4_6⟩) (by assumption) ?rq4_6
        case hq4_6 => (intro wS hSw; (try dsimp only at hSw); have hcq0 := cn hSw JA0; have hcq1 := cn hSw JA1; go_simp; try (with_reducible rfl))
        (try simp only [Act.put, List.setIfInBounds_toArray, List.set_cons_zero, List.set_cons_succ])
        refine take_d (i := 6) (v := ?vq4_7) rfl (by rfl) (by kernel_rfl) (by kernel_rfl) (by kernel_rfl) (fun _ _ _ h => h) (Or.inl ⟨by rfl, ?hq4_7⟩) (by assumption) ?rq4_7
        case hq4_7 => (intro wS hSw; (try dsimp only at hSw); go_simp; try (with_reducible rfl))
        (try simp only [Act.put, List.setIfInBounds_toArray, List.set_cons_zero, List.set_cons_succ])
        refine take_d (i := 7) (v := ?vq4_8) rfl (by rfl) (by kernel_rfl) (by kernel_rfl) (by kernel_rfl) (fun _ _ _ h => h) (Or.inl ⟨by rfl, ?hq4_8⟩) (by assumption) ?rq4_8
        case hq4_8 => (intro wS hSw; (try dsimp only at hSw); have hcq0 := cn hSw JA0; have hcq1 := cn hSw JA1; go_simp; try (with_reducible rfl))
        (try simp only [Act.put, List.setIfInBounds_toArray, List.set_cons_zero, List.set_cons_succ])
        refine take_d (i := 8) (v := ?vq4_9) rfl (by rfl) (by kernel_rfl) (by kernel_rfl) (by kernel_rfl) (fun _ _ _ h => h) (Or.inl ⟨by rfl, ?hq4_9⟩) (by assumption) ?rq4_9
        case hq4_9 => (intro wS hSw; (try dsimp only at hSw); go_simp; try (with_reducible rfl))
        (try simp only [Act.put, List.setIfInBounds_toArray, List.set_cons_zero, List.set_cons_succ])
        refine take_d (i := 9) (v := ?vq4_10) rfl (by rfl) (by kernel_rfl) (by kernel_rfl) (by kernel_rfl) (fun _ _ _ h => h) (Or.inl ⟨by rfl, ?hq4_10⟩) (by assumption) ?rq4_10
        case hq4_10 => (intro wS hSw; (try dsimp only at hSw); have hcq0 := cn hSw JA0; have hcq1 := cn hSw JA1; go_simp; try (with_reducible rfl))
        (try simp only [Act.put, List.setIfInBounds_toArray, List.set_cons_zero, List.set_cons_succ])
        refine take_d (i := 10) (v := ?vq4_11) rfl (by rfl) (by kernel_rfl) (by kernel_rfl) (by kernel_rfl) (fun _ _ _ h => h) (Or.inl ⟨by rfl, ?hq4_11⟩) (by assumption) ?rq4_11
        case hq4_11 => (intro wS hSw; (try dsimp only at hSw); go_simp; try (with_reducible rfl))
        (try simp only [Act.put, List.setIfInBounds_toArray, List.set_cons_zero, List.set_cons_succ])
        refine wpAnyH_ready (rs := [11]) (by kernel_rfl) (by simp) ?_
        refine AllReadyH.cons rfl (fun K hK => ?_) AllReadyH.nil
        go_simp
        go_at_call 46
        refine (HT.out _).mono ?_
        rintro e wq4_12 ⟨rfl, bkq4_12⟩
        have hBn := below_next hBk bkq4_12
        clear hBk bkq4_12
        have hBk := hBn
        clear hBn
        try go_simp
        refine hK.out _ _ ?_ (fun hHeld => ?_)
        · (try dsimp only); exact hBk
        clear hK K
        (try simp only [Act.put, List.setIfInBounds_toArray, List.set_cons_zero, List.set_cons_succ])
        refine take_d (i := 12) (v := ?vq4_13) rfl (by rfl) (by kernel_rfl) (by kernel_rfl) (by kernel_rfl) (fun _ _ _ h => h) (Or.inl ⟨by rfl, ?hq4_13⟩) (by assumption) ?rq4_13
        case hq4_13 => (intro wS hSw; (try dsimp only at hSw); go_simp; try (with_reducible rfl))
        (try simp only [Act.put, List.setIfInBounds_toArray, List.set_cons_zero, List.set_cons_succ])
        refine take_d (i := 13) (v := ?vq4_14) rfl (by rfl) (by kernel_rfl) (by kernel_rfl) (by kernel_rfl) (fun _ _ _ h => h) (Or.inl ⟨by rfl, ?hq4_14⟩) (by assumption) ?rq4_14
        case hq4_14 => (intro wS hSw; (try dsimp only at hSw); go_simp; try (with_reducible rfl))
        (try simp only [Act.put, List.setIfInBounds_toArray, List.set_cons_zero, List.set_cons_succ])
        refine take_d (i := 14) (v := ?vq4_15) rfl (by rfl) (by kernel_rfl) (by kernel_rfl) (by kernel_rfl) (fun _ _ _ h => h) (Or.inl ⟨by rfl, ?hq4_15⟩) (by assumption) ?rq4_15
        case hq4_15 => (intro wS hSw; (try dsimp only at hSw); have hcq0 := cn hSw JA0; have hcq1 := cn hSw JA1; go_simp; try (with_reducible rfl))
        (try simp only [Act.put, List.setIfInBounds_toArray, List.set_cons_zero, List.set_cons_succ])
        refine take_d (i := 17) (v := ?vq4_16) rfl (by rfl) (by kernel_rfl) (by kernel_rfl) (by kernel_rfl) (fun _ _ _ h => h) (Or.inl ⟨by rfl, ?hq4_16⟩) (by assumption) ?rq4_16
        case hq4_16 => (intro wS hSw; (try dsimp only at hSw); go_simp; try (with_reducible rfl))
        (try simp only [Act.put, List.setIfInBounds_toArray, List.set_cons_zero, List.set_cons_succ])
        refine take_d (i := 18) (v := ?vq4_17) rfl (by rfl) (by kernel_rfl) (by kernel_rfl) (by kernel_rfl) (fun _ _ _ h => h) (Or.inl ⟨by rfl, ?hq4_17⟩) (by assumption) ?rq4_17
        case hq4_17 => (intro wS hSw; (try dsimp only at hSw); have hcq0 := cn hSw JA0; have hcq1 := cn hSw JA1; go_simp; try (with_reducible rfl))
        (try simp only [Act.put, List.setIfInBounds_toArray, List.set_cons_zero, List.set_cons_succ])
        refine take_d (i := 19) (v := ?vq4_18) rfl (by rfl) (by kernel_rfl) (by kernel_rfl) (by kernel_rfl) (fun _ _ _ h => h) (Or.inl ⟨by rfl, ?hq4_18⟩) (by assumption) ?rq4_18
        case hq4_18 => (intro wS hSw; (try dsimp only at hSw); go_simp; try (with_reducible rfl))
        (try simp only [Act.put, List.setIfInBounds_toArray, List.set_cons_zero, List.set_cons_succ])
        refine wpAnyH_ready (rs := [15]) (by kernel_rfl) (by simp) ?_
        refine AllReadyH.cons rfl (fun K hK => ?_) AllReadyH.nil
        go_simp
        go_at_call 49
        refine (FR.out _).mono ?_
        rintro e wq4_19 ⟨rfl, bkq4_19⟩
        have hBn := below_next hBk bkq4_19
        clear hBk bkq4_19
        have hBk := hBn
        clear hBn
        try go_simp
        refine hK.out _ _ ?_ (fun hHeld => ?_)
        · (try dsimp only); exact hBk
        clear hK K
        (try simp only [Act.put, List.setIfInBounds_toArray, List.set_cons_zero, List.set_cons_succ])
        refine take_d (i := 16) (v := ?vq4_20) rfl (by rfl) (by kernel_rfl) (by kernel_rfl) (by kernel_rfl) (fun _ _ _ h => h) (Or.inl ⟨by rfl, ?hq4_20⟩) (by assumption) ?rq4_20
        case hq4_20 => (intro wS hSw; (try dsimp only at hSw); go_simp; try (with_reducible rfl))
        (try simp only [Act.put, List.setIfInBounds_toArray, List.set_cons_zero, List.set_cons_succ])
        refine take_d (i := 20) (v := ?vq4_21) rfl (by rfl) (by kernel_rfl) (by kernel_rfl) (by kernel_rfl) (fun _ _ _ h => h) (Or.inl ⟨by rfl, ?hq4_21⟩) (by assumption) ?rq4_21
        case hq4_21 => (intro wS hSw; (try dsimp only at hSw); go_simp; try (with_reducible rfl))
        (try simp only [Act.put, List.setIfInBounds_toArray, List.set_cons_zero, List.set_cons_succ])
        refine take_d (i := 21) (v := ?vq4_22) rfl (by rfl) (by kernel_rfl) (by kernel_rfl) (by kernel_rfl) (fun _ _ _ h => h) (Or.inl ⟨by rfl, ?hq4_22⟩) (by assumption) ?rq4_22
        case hq4_22 => (intro wS hSw; (try dsimp only at hSw); go_simp; try (with_reducible rfl))
        (try simp only [Act.put, List.setIfInBounds_toArray, List.set_cons_zero, List.set_cons_succ])
        refine take_d (i := 22) (v := ?vq4_23) rfl (by rfl) (by kernel_rfl) (by kernel_rfl) (by kernel_rfl) (fun _ _ _ h => h) (Or.inl ⟨by rfl, ?hq4_23⟩) (by assumption) ?rq4_23
        case hq4_23 => (intro wS hSw; (try dsimp only at hSw); go_simp; try (with_reducible rfl))
        (try simp only [Act.put, List.setIfInBounds_toArray, List.set_cons_zero, List.set_cons_succ])
        refine wpAnyH_done (by kernel_rfl) ?_ _
        clear JA0 JA1 JAl JB0 JB1 JBl JC0 JC1 JCl JJ0 JJ1 JJl JM0 JM1 JMl lB
        generalize wq4_19 = w14 at hBk ⊢
        replace JA := JA.below hBk
        replace JB := JB.below hBk
        replace JC := JC.below hBk
        replace JJ := JJ.below hBk
        replace JM := JM.below hBk
        replace B := below_next B hBk
        clear hBk
        go_wp2
        go_ret
        exact ⟨rfl, B⟩
      · skip
        obtain rfl : cb = false := hNo.out (by trivial)
        have JA0 := JA.2.1
        have JA1 := JA.2.2
        have JAl := JA.1
        have JB0 := JB.2.1
        have JB1 := JB.2.2
        have JBl := JB.1
        have JC0 := JC.2.1
        have JC1 := JC.2.2
        have JCl := JC.1
        have JJ0 := JJ.2.1
        have JJ1 := JJ.2.2
        have JJl := JJ.1
        have JM0 := JM.2.1
        have JM1 := JM.2.2
        have JMl := JM.1
        have lB := B.size
        go_wp2_with fail
        refine (Icb.out _).mono ?_
        rintro e w14 ⟨rfl, z⟩
        clear JA0 JA1 JAl JB0 JB1 JBl JC0 JC1 JCl JJ0 JJ1 JJl JM0 JM1 JMl lB
        replace JA := JA.below z
        replace JB := JB.below z
        replace JC := JC.below z
        replace JJ := JJ.below z
        replace JM := JM.below z
        replace B := below_next B z
        clear z
        have hce := hce.out
        have JA0 := JA.2.1
        have JA1 := JA.2.2
        have JAl := JA.1
        have JB0 := JB.2.1
        have JB1 := JB.2.2
        have JBl := JB.1
        have JC0 := JC.2.1
        have JC1 := JC.2.2
        have JCl := JC.1
        have JJ0 := JJ.2.1
        have JJ1 := JJ.2.2
        have JJl := JJ.1
        have JM0 := JM.2.1
        have JM1 := JM.2.2
        have JMl := JM.1
        have lB := B.size
        go_wp2_with fail
        refine wp_region_held_drew (S := (fun w' : World => Below w14.heap.size w14 w')) (by kernel_rfl) ?_ (fun hHeld => ?_)
        · (try dsimp only); first | (with_reducible exact below_dr _) | (with_reducible exact Below.refl _ _) | exact below_dr _
        have hBk := below_dr w14
        refine take_d (i := 0) (v := ?vq5_1) rfl (by rfl) (by kernel_rfl) (by kernel_rfl) (by kernel_rfl) (fun _ _ _ h => h) (Or.inl ⟨by rfl, ?hq5_1⟩) (by assumption) ?rq5_1
        case hq5_1 => (intro wS hSw; (try dsimp only at hSw); have hcq0 := cn hSw JA0; have hcq1 := cn hSw JA1; go_simp; try (with_reducible rfl))
        (try simp only [Act.put, List.setIfInBounds_toArray, List.set_cons_zero, List.set_cons_succ])
        refine take_d (i := 1) (v := ?vq5_2) rfl (by rfl) (by kernel_rfl) (by kernel_rfl) (by kernel_rfl) (fun _ _ _ h => h) (Or.inl ⟨by rfl, ?hq5_2⟩) (by assumption) ?rq5_2
        case hq5_2 => (intro wS hSw; (try dsimp only at hSw); go_simp; try (with_reducible rfl))
        (try simp only [Act.put, List.setIfInBounds_toArray, List.set_cons_zero, List.set_cons_succ])
        refine take_d (i := 2) (v := ?vq5_3) rfl (by rfl) (by kernel_rfl) (by kernel_rfl) (by kernel_rfl) (fun _ _ _ h => h) (Or.inl ⟨by rfl, ?hq5_3⟩) (by assumption) ?rq5_3
        case hq5_3 => (intro wS hSw; (try dsimp only at hSw); have hcq0 := cn hSw JA0; have hcq1 := cn hSw JA1; go_simp; try (with_reducible rfl))
        (try simp only [Act.put, List.setIfInBounds_toArray, List.set_cons_zero, List.set_cons_succ])
        refine wpAnyH_ready (rs := [3]) (by kernel_rfl) (by simp) ?_
        refine AllReadyH.cons rfl (fun K hK => ?_) AllReadyH.nil
        go_simp
        go_at_call 46
        refine (HL.out _).mono ?_
        rintro e wq5_4 ⟨rfl, bkq5_4⟩
        have hBn := below_next hBk bkq5_4
        clear hBk bkq5_4
        have hBk := hBn
        clear hBn
        try go_simp
        refine hK.out _ _ ?_ (fun hHeld => ?_)
        · (try dsimp only); exact hBk
        clear hK K
        (try simp only [Act.put, List.setIfInBounds_toArray, List.set_cons_zero, List.set_cons_succ])
        refine take_d (i := 4) (v := ?vq5_5) rfl (by rfl) (by kernel_rfl) (by kernel_rfl) (by kernel_rfl) (fun _ _ _ h => h) (Or.inl ⟨by rfl, ?hq5_5⟩) (by assumption) ?rq5_5
        case hq5_5 => (intro wS hSw; (try dsimp only at hSw); go_simp; try (with_reducible rfl))
        (try simp only [Act.put, List.setIfInBounds_toArray, List.set_cons_zero, List.set_cons_succ])
        refine take_d (i := 5) (v := ?vq5_6) rfl (by rfl) (by kernel_rfl) (by kernel_rfl) (by kernel_rfl) (fun _ _ _ h => h) (Or.inl ⟨by rfl, ?hq5_6⟩) (by assumption) ?rq5_6
        case hq5_6 => (intro wS hSw; (try dsimp only at hSw); have hcq0 := cn hSw JA0; have hcq1 := cn hSw JA1; go_simp; try (with_reducible rfl))
        (try simp only [Act.put, List.setIfInBounds_toArray, List.set_cons_zero, List.set_cons_succ])
        refine take_d (i := 6) (v := ?vq5_7) rfl (by rfl) (by kernel_rfl) (by kernel_rfl) (by kernel_rfl) (fun _ _ _ h => h) (Or.inl ⟨by rfl, ?hq5_7⟩) (by assumption) ?rq5_7
        case hq5_7 => (intro wS hSw; (try dsimp only at hSw); go_simp; try (with_reducible rfl))
        (try simp only [Act.put, List.setIfInBounds_toArray, List.set_cons_zero, List.set_cons_succ])
        refine take_d (i := 7) (v := ?vq5_8) rfl (by rfl) (by kernel_rfl) (by kernel_rfl) (by kernel_rfl) (fun _ _ _ h => h) (Or.inl ⟨by rfl, ?hq5_8⟩) (by assumption) ?rq5_8
        case hq5_8 => (intro wS hSw; (try dsimp only at hSw); have hcq0 := cn hSw JA0; have hcq1 := cn hSw JA1; go_simp; try (with_reducible rfl))
        (try simp only [Act.put, List.setIfInBounds_toArray, List.set_cons_zero, List.set_cons_succ])
        refine take_d (i := 8) (v := ?vq5_9) rfl (by rfl) (by kernel_rfl) (by kernel_rfl) (by kernel_rfl) (fun _ _ _ h => h) (Or.inl ⟨by rfl, ?hq5_9⟩) (by assumption) ?rq5_9
        case hq5_9 => (intro wS hSw; (try dsimp only at hSw); go_simp; try (with_reducible rfl))
        (try simp only [Act.put, List.setIfInBounds_toArray, List.set_cons_zero, List.set_cons_succ])
        refine take_d (i := 9) (v := ?vq5_10) rfl (by rfl) (by kernel_rfl) (by kernel_rfl) (by kernel_rfl) (fun _ _ _ h => h) (Or.inl ⟨by rfl, ?hq5_10⟩) (by assumption) ?rq5_10
        case hq5_10 => (intro wS hSw; (try dsimp only at hSw); have hcq0 := cn hSw JA0; have hcq1 := cn hSw JA1; go_simp; try (with_reducible rfl))
        (try simp only [Act.put, List.setIfInBounds_toArray, List.set_cons_zero, List.set_cons_succ])
        refine take_d (i := 10) (v := ?vq5_11) rfl (by rfl) (by kernel_rfl) (by kernel_rfl) (by kernel_rfl) (fun _ _ _ h => h) (Or.inl ⟨by rfl, ?hq5_11⟩) (by assumption) ?rq5_11
        case hq5_11 => (intro wS hSw; (try dsimp only at hSw); go_simp; try (with_reducible rfl))
        (try simp only [Act.put, List.setIfInBounds_toArray, List.set_cons_zero, List.set_cons_succ])
        refine wpAnyH_ready (rs := [11]) (by kernel_rfl) (by simp) ?_
        refine AllReadyH.cons rfl (fun K hK => ?_) AllReadyH.nil
        go_simp
        go_at_call 46
        refine (HT.out _).mono ?_
        rintro e wq5_12 ⟨rfl, bkq5_12⟩
        have hBn := below_next hBk bkq5_12
        clear hBk bkq5_12
        have hBk := hBn
        clear hBn
        try go_simp
        refine hK.out _ _ ?_ (fun hHeld => ?_)
        · (try dsimp only); exact hBk
        clear hK K
        (try simp only [Act.put, List.setIfInBounds_toArray, List.set_cons_zero, List.set_cons_succ])
        refine take_d (i := 12) (v := ?vq5_13) rfl (by rfl) (by kernel_rfl) (by kernel_rfl) (by kernel_rfl) (fun _ _ _ h => h) (Or.inl ⟨by rfl, ?hq5_13⟩) (by assumption) ?rq5_13
        case hq5_13 => (intro wS hSw; (try dsimp only at hSw); go_simp; try (with_reducible rfl))
        (try simp only [Act.put, List.setIfInBounds_toArray, List.set_cons_zero, List.set_cons_succ])
        refine take_d (i := 13) (v := ?vq5_14) rfl (by rfl) (by kernel_rfl) (by kernel_rfl) (by kernel_rfl) (fun _ _ _ h => h) (Or.inl ⟨by rfl, ?hq5_14⟩) (by assumption) ?rq5_14
        case hq5_14 => (intro wS hSw; (try dsimp only at hSw); go_simp; try (with_reducible rfl))
        (try simp only [Act.put, List.setIfInBounds_toArray, List.set_cons_zero, List.set_cons_succ])
        refine take_d (i := 14) (v := ?vq5_15) rfl (by rfl) (by kernel_rfl) (by kernel_rfl) (by kernel_rfl) (fun _ _ _ h => h) (Or.inl ⟨by rfl, ?hq5_15⟩) (by assumption) ?rq5_15
        case hq5_15 => (intro wS hSw; (try dsimp only at hSw); have hcq0 := cn hSw JA0; have hcq1 := cn hSw JA1; go_simp; try (with_reducible rfl))
        (try simp only [Act.put, List.setIfInBounds_toArray, List.set_cons_zero, List.set_cons_succ])
        refine take_d (i := 17) (v := ?vq5_16) rfl (by rfl) (by kernel_rfl) (by kernel_rfl) (by kernel_rfl) (fun _ _ _ h => h) (Or.inl ⟨by rfl, ?hq5_16⟩) (by assumption) ?rq5_16
        case hq5_16 => (intro wS hSw; (try dsimp only at hSw); go_simp; try (with_reducible rfl))
        (try simp only [Act.put, List.setIfInBounds_toArray, List.set_cons_zero, List.set_cons_succ])
        refine take_d (i := 18) (v := ?vq5_17) rfl (by rfl) (by kernel_rfl) (by kernel_rfl) (by kernel_rfl) (fun _ _ _ h => h) (Or.inl ⟨by rfl, ?hq5_17⟩) (by assumption) ?rq5_17
        case hq5_17 => (intro wS hSw; (try dsimp only at hSw); have hcq0 := cn hSw JA0; have hcq1 := cn hSw JA1; go_simp; try (with_reducible rfl))
        (try simp only [Act.put, List.setIfInBounds_toArray, List.set_cons_zero, List.set_cons_succ])
        refine take_d (i := 19) (v := ?vq5_18) rfl (by rfl) (by kernel_rfl) (by kernel_rfl) (by kernel_rfl) (fun _ _ _ h => h) (Or.inl ⟨by rfl, ?hq5_18⟩) (by assumption) ?rq5_18
        case hq5_18 => (intro wS hSw; (try dsimp only at hSw); go_simp; try (with_reducible rfl))
        (try simp only [Act.put, List.setIfInBounds_toArray, List.set_cons_zero, List.set_cons_succ])
        refine wpAnyH_ready (rs := [15]) (by kernel_rfl) (by simp) ?_
        refine AllReadyH.cons rfl (fun K hK => ?_) AllReadyH.nil
        go_simp
        go_at_call 49
        refine (FR.out _).mono ?_
        rintro e wq5_19 ⟨rfl, bkq5_19⟩
        have hBn := below_next hBk bkq5_19
        clear hBk bkq5_19
        have hBk := hBn
        clear hBn
        try go_simp
        refine hK.out _ _ ?_ (fun hHeld => ?_)
        · (try dsimp only); exact hBk
        clear hK K
        (try simp only [Act.put, List.setIfInBounds_toArray, List.set_cons_zero, List.set_cons_succ])
        refine take_d (i := 16) (v := ?vq5_20) rfl (by rfl) (by kernel_rfl) (by kernel_rfl) (by kernel_rfl) (fun _ _ _ h => h) (Or.inl ⟨by rfl, ?hq5_20⟩) (by assumption) ?rq5_20
        case hq5_20 => (intro wS hSw; (try dsimp only at hSw); go_simp; try (with_reducible rfl))
        (try simp only [Act.put, List.setIfInBounds_toArray, List.set_cons_zero, List.set_cons_succ])
        refine take_d (i := 20) (v := ?vq5_21) rfl (by rfl) (by kernel_rfl) (by kernel_rfl) (by kernel_rfl) (fun _ _ _ h => h) (Or.inl ⟨by rfl, ?hq5_21⟩) (by assumption) ?rq5_21
        case hq5_21 => (intro wS hSw; (try dsimp only at hSw); go_simp; try (with_reducible rfl))
        (try simp only [Act.put, List.setIfInBounds_toArray, List.set_cons_zero, List.set_cons_succ])
        refine take_d (i := 21) (v := ?vq5_22) rfl (by rfl) (by kernel_rfl) (by kernel_rfl) (by kernel_rfl) (fun _ _ _ h => h) (Or.inl ⟨by rfl, ?hq5_22⟩) (by assumption) ?rq5_22
        case hq5_22 => (intro wS hSw; (try dsimp only at hSw); go_simp; try (with_reducible rfl))
        (try simp only [Act.put, List.setIfInBounds_toArray, List.set_cons_zero, List.set_cons_succ])
        refine take_d (i := 22) (v := ?vq5_23) rfl (by rfl) (by kernel_rfl) (by kernel_rfl) (by kernel_rfl) (fun _ _ _ h => h) (Or.inl ⟨by rfl, ?hq5_23⟩) (by assumption) ?rq5_23
        case hq5_23 => (intro wS hSw; (try dsimp only at hSw); go_simp; try (with_reducible rfl))
        (try simp only [Act.put, List.setIfInBounds_toArray, List.set_cons_zero, List.set_cons_succ])
        refine wpAnyH_done (by kernel_rfl) ?_ _
        clear JA0 JA1 JAl JB0 JB1 JBl JC0 JC1 JCl JJ0 JJ1 JJl JM0 JM1 JMl lB
        generalize wq5_19 = w15 at hBk ⊢
        replace JA := JA.below hBk
        replace JB := JB.below hBk
        replace JC := JC.below hBk
        replace JJ := JJ.below hBk
        replace JM := JM.below hBk
        replace B := below_next B hBk
        clear hBk
        go_wp2
        go_ret
        exact ⟨rfl, B⟩
  · skip
    cases bc
    · skip
      have JA0 := JA.2.1
      have JA1 := JA.2.2
      have JAl := JA.1
      have JB0 := JB.2.1
      have JB1 := JB.2.2
      have JBl := JB.1
      have JC0 := JC.2.1
      have JC1 := JC.2.2
      have JCl := JC.1
      have JJ0 := JJ.2.1
      have JJ1 := JJ.2.2
      have JJl := JJ.1
      have lB := B.size
      go_wp2_with fail
      refine (Iaj.out _).mono ?_
      rintro e w8 ⟨rfl, z⟩
      clear JA0 JA1 JAl JB0 JB1 JBl JC0 JC1 JCl JJ0 JJ1 JJl lB
      replace JA := JA.below z
      replace JB := JB.below z
      replace JC := JC.below z
      replace JJ := JJ.below z
      replace B := below_next B z
      clear z
      have JA0 := JA.2.1
      have JA1 := JA.2.2
      have JAl := JA.1
      have JB0 := JB.2.1
      have JB1 := JB.2.2
      have JBl := JB.1
      have JC0 := JC.2.1
      have JC1 := JC.2.2
      have JCl := JC.1
      have JJ0 := JJ.2.1
      have JJ1 := JJ.2.2
      have JJl := JJ.1
      have lB := B.size
      go_wp2_with fail
      refine (Ibj.out _).mono ?_
      rintro e w9 ⟨rfl, z⟩
      clear JA0 JA1 JAl JB0 JB1 JBl JC0 JC1 JCl JJ0 JJ1 JJl lB
      replace JA := JA.below z
      replace JB := JB.below z
      replace JC := JC.below z
      replace JJ := JJ.below z
      replace B := below_next B z
      clear z
      have JA0 := JA.2.1
      have JA1 := JA.2.2
      have JAl := JA.1
      have JB0 := JB.2.1
      have JB1 := JB.2.2
      have JBl := JB.1
      have JC0 := JC.2.1
      have JC1 := JC.2.2
      have JCl := JC.1
      have JJ0 := JJ.2.1
      have JJ1 := JJ.2.2
      have JJl := JJ.1
      have lB := B.size
      go_wp2_with fail
      refine (Iac.out _).mono ?_
      rintro e w10 ⟨rfl, z⟩
      clear JA0 JA1 JAl JB0 JB1 JBl JC0 JC1 JCl JJ0 JJ1 JJl lB
      replace JA := JA.below z
      replace JB := JB.below z
      replace JC := JC.below z
      replace JJ := JJ.below z
      replace B := below_next B z
      clear z
      have JA0 := JA.2.1
      have JA1 := JA.2.2
      have JAl := JA.1
      have JB0 := JB.2.1
      have JB1 := JB.2.2
      have JBl := JB.1
      have JC0 := JC.2.1
      have JC1 := JC.2.2
      have JCl := JC.1
      have JJ0 := JJ.2.1
      have JJ1 := JJ.2.2
      have JJl := JJ.1
      have lB := B.size
      go_wp2_with fail
      refine (Ibc.out _).mono ?_
      rintro e w11 ⟨rfl, z⟩
      clear JA0 JA1 JAl JB0 JB1 JBl JC0 JC1 JCl JJ0 JJ1 JJl lB
      replace JA := JA.below z
      replace JB := JB.below z
      replace JC := JC.below z
      replace JJ := JJ.below z
      replace B := below_next B z
      clear z
      have JA0 := JA.2.1
      have JA1 := JA.2.2
      have JAl := JA.1
      have JB0 := JB.2.1
      have JB1 := JB.2.2
      have JBl := JB.1
      have JC0 := JC.2.1
      have JC1 := JC.2.2
      have JCl := JC.1
      have JJ0 := JJ.2.1
      have JJ1 := JJ.2.2
      have JJl := JJ.1
      have lB := B.size
      go_wp2_with fail
      refine (XM.out _).mono ?_
      rintro e w12 ⟨rfl, z⟩
      clear JA0 JA1 JAl JB0 JB1 JBl JC0 JC1 JCl JJ0 JJ1 JJl lB
      replace JA := JA.below z
      replace JB := JB.below z
      replace JC := JC.below z
      replace JJ := JJ.below z
      replace B := below_next B z
      clear z
      rcases (show mk = true ∨ mk = false by cases mk <;> simp) with rfl | rfl
      · skip
        obtain rfl : ma = true := mA.out (by trivial)
        obtain rfl : mb = true := mB.out (by trivial)
        clear mA mB
        have JA0 := JA.2.1
        have JA1 := JA.2.2
        have JAl := JA.1
        have JB0 := JB.2.1
        have JB1 := JB.2.2
        have JBl := JB.1
        have JC0 := JC.2.1
        have JC1 := JC.2.2
        have JCl := JC.1
        have JJ0 := JJ.2.1
        have JJ1 := JJ.2.2
        have JJl := JJ.1
        have lB := B.size
        go_wp2_with fail
        clear JA0 JA1 JAl JB0 JB1 JBl JC0 JC1 JCl JJ0 JJ1 JJl lB
        have JM : TC (w12.alloc (.cells #[.int .u64 (ub M0.1), .int .u64 (ub M0.2)] 24)) w12.heap.size M0 := TC.new rfl
        replace JA := JA.alloc (.cells #[.int .u64 (ub M0.1), .int .u64 (ub M0.2)] 24)
        replace JB := JB.alloc (.cells #[.int .u64 (ub M0.1), .int .u64 (ub M0.2)] 24)
        replace JC := JC.alloc (.cells #[.int .u64 (ub M0.1), .int .u64 (ub M0.2)] 24)
        replace JJ := JJ.alloc (.cells #[.int .u64 (ub M0.1), .int .u64 (ub M0.2)] 24)
        replace B := Below.alloc B B.size (.cells #[.int .u64 (ub M0.1), .int .u64 (ub M0.2)] 24)
        generalize w12.alloc (.cells #[.int .u64 (ub M0.1), .int .u64 (ub M0.2)] 24) = w13 at *
        generalize w12.heap.size = g2 at *
        have JA0 := JA.2.1
        have JA1 := JA.2.2
        have JAl := JA.1
        have JB0 := JB.2.1
        have JB1 := JB.2.2
        have JBl := JB.1
        have JC0 := JC.2.1
        have JC1 := JC.2.2
        have JCl := JC.1
        have JJ0 := JJ.2.1
        have JJ1 := JJ.2.2
        have JJl := JJ.1
        have JM0 := JM.2.1
        have JM1 := JM.2.2
        have JMl := JM.1
        have lB := B.size
        go_wp2_with fail
        refine (Ima.out _).mono ?_
        rintro e w14 ⟨rfl, z⟩
        clear JA0 JA1 JAl JB0 JB1 JBl JC0 JC1 JCl JJ0 JJ1 JJl JM0 JM1 JMl lB
        replace JA := JA.below z
        replace JB := JB.below z
        replace JC := JC.below z
        replace JJ := JJ.below z
        replace JM := JM.below z
        replace B := below_next B z
        clear z
        have JA0 := JA.2.1
        have JA1 := JA.2.2
        have JAl := JA.1
        have JB0 := JB.2.1
        have JB1 := JB.2.2
        have JBl := JB.1
        have JC0 := JC.2.1
        have JC1 := JC.2.2
        have JCl := JC.1
        have JJ0 := JJ.2.1
        have JJ1 := JJ.2.2
        have JJl := JJ.1
        have JM0 := JM.2.1
        have JM1 := JM.2.2
        have JMl := JM.1
        have lB := B.size
        go_wp2_with fail
        refine (Imb.out _).mono ?_
        rintro e w15 ⟨rfl, z⟩
        clear JA0 JA1 JAl JB0 JB1 JBl JC0 JC1 JCl JJ0 JJ1 JJl JM0 JM1 JMl lB
        replace JA := JA.below z
        replace JB := JB.below z
        replace JC := JC.below z
        replace JJ := JJ.below z
        replace JM := JM.below z
        replace B := below_next B z
        clear z
        have JA0 := JA.2.1
        have JA1 := JA.2.2
        have JAl := JA.1
        have JB0 := JB.2.1
        have JB1 := JB.2.2
        have JBl := JB.1
        have JC0 := JC.2.1
        have JC1 := JC.2.2
        have JCl := JC.1
        have JJ0 := JJ.2.1
        have JJ1 := JJ.2.2
        have JJl := JJ.1
        have JM0 := JM.2.1
        have JM1 := JM.2.2
        have JMl := JM.1
        have lB := B.size
        go_wp2_with fail
        refine (Ica.out _).mono ?_
        rintro e w16 ⟨rfl, z⟩
        clear JA0 JA1 JAl JB0 JB1 JBl JC0 JC1 JCl JJ0 JJ1 JJl JM0 JM1 JMl lB
        replace JA := JA.below z
        replace JB := JB.below z
        replace JC := JC.below z
        replace JJ := JJ.below z
        replace JM := JM.below z
        replace B := below_next B z
        clear z
        cases ca
        · skip
          have hce := hce.out
          have JA0 := JA.2.1
          have JA1 := JA.2.2
          have JAl := JA.1
          have JB0 := JB.2.1
          have JB1 := JB.2.2
          have JBl := JB.1
          have JC0 := JC.2.1
          have JC1 := JC.2.2
          have JCl := JC.1
          have JJ0 := JJ.2.1
          have JJ1 := JJ.2.2
          have JJl := JJ.1
          have JM0 := JM.2.1
          have JM1 := JM.2.2
          have JMl := JM.1
          have lB := B.size
          go_wp2_with fail
          refine wp_region_held_drew (S := (fun w' : World => Below w16.heap.size w16 w')) (by kernel_rfl) ?_ (fun hHeld => ?_)
          · (try dsimp only); first | (with_reducible exact below_dr _) | (with_reducible exact Below.refl _ _) | exact below_dr _
          have hBk := below_dr w16
          refine take_d (i := 0) (v := ?vq6_1) rfl (by rfl) (by kernel_rfl) (by kernel_rfl) (by kernel_rfl) (fun _ _ _ h => h) (Or.inl ⟨by rfl, ?hq6_1⟩) (by assumption) ?rq6_1
          case hq6_1 => (intro wS hSw; (try dsimp only at hSw); have hcq0 := cn hSw JA0; have hcq1 := cn hSw JA1; go_simp; try (with_reducible rfl))
          (try simp only [Act.put, List.setIfInBounds_toArray, List.set_cons_zero, List.set_cons_succ])
          refine take_d (i := 1) (v := ?vq6_2) rfl (by rfl) (by kernel_rfl) (by kernel_rfl) (by kernel_rfl) (fun _ _ _ h => h) (Or.inl ⟨by rfl, ?hq6_2⟩) (by assumption) ?rq6_2
          case hq6_2 => (intro wS hSw; (try dsimp only at hSw); go_simp; try (with_reducible rfl))
          (try simp only [Act.put, List.setIfInBounds_toArray, List.set_cons_zero, List.set_cons_succ])
          refine take_d (i := 2) (v := ?vq6_3) rfl (by rfl) (by kernel_rfl) (by kernel_rfl) (by kernel_rfl) (fun _ _ _ h => h) (Or.inl ⟨by rfl, ?hq6_3⟩) (by assumption) ?rq6_3
          case hq6_3 => (intro wS hSw; (try dsimp only at hSw); have hcq0 := cn hSw JA0; have hcq1 := cn hSw JA1; go_simp; try (with_reducible rfl))
          (try simp only [Act.put, List.setIfInBounds_toArray, List.set_cons_zero, List.set_cons_succ])
          refine wpAnyH_ready (rs := [3]) (by kernel_rfl) (by simp) ?_
          refine AllReadyH.cons rfl (fun K hK => ?_) AllReadyH.nil
          go_simp
          go_at_call 46
          refine (HL.out _).mono ?_
          rintro e wq6_4 ⟨rfl, bkq6_4⟩
          have hBn := below_next hBk bkq6_4
          clear hBk bkq6_4
          have hBk := hBn
          clear hBn
          try go_simp
          refine hK.out _ _ ?_ (fun hHeld => ?_)
          · (try dsimp only); exact hBk
          clear hK K
          (try simp only [Act.put, List.setIfInBounds_toArray, List.set_cons_zero, List.set_cons_succ])
          refine take_d (i := 4) (v := ?vq6_5) rfl (by rfl) (by kernel_rfl) (by kernel_rfl) (by kernel_rfl) (fun _ _ _ h => h) (Or.inl ⟨by rfl, ?hq6_5⟩) (by assumption) ?rq6_5
          case hq6_5 => (intro wS hSw; (try dsimp only at hSw); go_simp; try (with_reducible rfl))
          (try simp only [Act.put, List.setIfInBounds_toArray, List.set_cons_zero, List.set_cons_succ])
          refine take_d (i := 5) (v := ?vq6_6) rfl (by rfl) (by kernel_rfl) (by kernel_rfl) (by kernel_rfl) (fun _ _ _ h => h) (Or.inl ⟨by rfl, ?hq6_6⟩) (by assumption) ?rq6_6
          case hq6_6 => (intro wS hSw; (try dsimp only at hSw); have hcq0 := cn hSw JA0; have hcq1 := cn hSw JA1; go_simp; try (with_reducible rfl))
          (try simp only [Act.put, List.setIfInBounds_toArray, List.set_cons_zero, List.set_cons_succ])
          refine take_d (i := 6) (v := ?vq6_7) rfl (by rfl) (by kernel_rfl) (by kernel_rfl) (by kernel_rfl) (fun _ _ _ h => h) (Or.inl ⟨by rfl, ?hq6_7⟩) (by assumption) ?rq6_7
          case hq6_7 => (intro wS hSw; (try dsimp only at hSw); go_simp; try (with_reducible rfl))
          (try simp only [Act.put, List.setIfInBounds_toArray, List.set_cons_zero, List.set_cons_succ])
          refine take_d (i := 7) (v := ?vq6_8) rfl (by rfl) (by kernel_rfl) (by kernel_rfl) (by kernel_rfl) (fun _ _ _ h => h) (Or.inl ⟨by rfl, ?hq6_8⟩) (by assumption) ?rq6_8
          case hq6_8 => (intro wS hSw; (try dsimp only at hSw); have hcq0 := cn hSw JA0; have hcq1 := cn hSw JA1; go_simp; try (with_reducible rfl))
          (try simp only [Act.put, List.setIfInBounds_toArray, List.set_cons_zero, List.set_cons_succ])
          refine take_d (i := 8) (v := ?vq6_9) rfl (by rfl) (by kernel_rfl) (by kernel_rfl) (by kernel_rfl) (fun _ _ _ h => h) (Or.inl ⟨by rfl, ?hq6_9⟩) (by assumption) ?rq6_9
          case hq6_9 => (intro wS hSw; (try dsimp only at hSw); go_simp; try (with_reducible rfl))
          (try simp only [Act.put, List.setIfInBounds_toArray, List.set_cons_zero, List.set_cons_succ])
          refine take_d (i := 9) (v := ?vq6_10) rfl (by rfl) (by kernel_rfl) (by kernel_rfl) (by kernel_rfl) (fun _ _ _ h => h) (Or.inl ⟨by rfl, ?hq6_10⟩) (by assumption) ?rq6_10
          case hq6_10 => (intro wS hSw; (try dsimp only at hSw); have hcq0 := cn hSw JA0; have hcq1 := cn hSw JA1; go_simp; try (with_reducible rfl))
          (try simp only [Act.put, List.setIfInBounds_toArray, List.set_cons_zero, List.set_cons_succ])
          refine take_d (i := 10) (v := ?vq6_11) rfl (by rfl) (by kernel_rfl) (by kernel_rfl) (by kernel_rfl) (fun _ _ _ h => h) (Or.inl ⟨by rfl, ?hq6_11⟩) (by assumption) ?rq6_11
          case hq6_11 => (intro wS hSw; (try dsimp only at hSw); go_simp; try (with_reducible rfl))
          (try simp only [Act.put, List.setIfInBounds_toArray, List.set_cons_zero, List.set_cons_succ])
          refine wpAnyH_ready (rs := [11]) (by kernel_rfl) (by simp) ?_
          refine AllReadyH.cons rfl (fun K hK => ?_) AllReadyH.nil
          go_simp
          go_at_call 46
          refine (HT.out _).mono ?_
          rintro e wq6_12 ⟨rfl, bkq6_12⟩
          have hBn := below_next hBk bkq6_12
          clear hBk bkq6_12
          have hBk := hBn
          clear hBn
          try go_simp
          refine hK.out _ _ ?_ (fun hHeld => ?_)
          · (try dsimp only); exact hBk
          clear hK K
          (try simp only [Act.put, List.setIfInBounds_toArray, List.set_cons_zero, List.set_cons_succ])
          refine take_d (i := 12) (v := ?vq6_13) rfl (by rfl) (by kernel_rfl) (by kernel_rfl) (by kernel_rfl) (fun _ _ _ h => h) (Or.inl ⟨by rfl, ?hq6_13⟩) (by assumption) ?rq6_13
          case hq6_13 => (intro wS hSw; (try dsimp only at hSw); go_simp; try (with_reducible rfl))
          (try simp only [Act.put, List.setIfInBounds_toArray, List.set_cons_zero, List.set_cons_succ])
          refine take_d (i := 13) (v := ?vq6_14) rfl (by rfl) (by kernel_rfl) (by kernel_rfl) (by kernel_rfl) (fun _ _ _ h => h) (Or.inl ⟨by rfl, ?hq6_14⟩) (by assumption) ?rq6_14
          case hq6_14 => (intro wS hSw; (try dsimp only at hSw); go_simp; try (with_reducible rfl))
          (try simp only [Act.put, List.setIfInBounds_toArray, List.set_cons_zero, List.set_cons_succ])
          refine take_d (i := 14) (v := ?vq6_15) rfl (by rfl) (by kernel_rfl) (by kernel_rfl) (by kernel_rfl) (fun _ _ _ h => h) (Or.inl ⟨by rfl, ?hq6_15⟩) (by assumption) ?rq6_15
          case hq6_15 => (intro wS hSw; (try dsimp only at hSw); have hcq0 := cn hSw JA0; have hcq1 := cn hSw JA1; go_simp; try (with_reducible rfl))
          (try simp only [Act.put, List.setIfInBounds_toArray, List.set_cons_zero, List.set_cons_succ])
          refine take_d (i := 17) (v := ?vq6_16) rfl (by rfl) (by kernel_rfl) (by kernel_rfl) (by kernel_rfl) (fun _ _ _ h => h) (Or.inl ⟨by rfl, ?hq6_16⟩) (by assumption) ?rq6_16
          case hq6_16 => (intro wS hSw; (try dsimp only at hSw); go_simp; try (with_reducible rfl))
          (try simp only [Act.put, List.setIfInBounds_toArray, List.set_cons_zero, List.set_cons_succ])
          refine take_d (i := 18) (v := ?vq6_17) rfl (by rfl) (by kernel_rfl) (by kernel_rfl) (by kernel_rfl) (fun _ _ _ h => h) (Or.inl ⟨by rfl, ?hq6_17⟩) (by assumption) ?rq6_17
          case hq6_17 => (intro wS hSw; (try dsimp only at hSw); have hcq0 := cn hSw JA0; have hcq1 := cn hSw JA1; go_simp; try (with_reducible rfl))
          (try simp only [Act.put, List.setIfInBounds_toArray, List.set_cons_zero, List.set_cons_succ])
          refine take_d (i := 19) (v := ?vq6_18) rfl (by rfl) (by kernel_rfl) (by kernel_rfl) (by kernel_rfl) (fun _ _ _ h => h) (Or.inl ⟨by rfl, ?hq6_18⟩) (by assumption) ?rq6_18
          case hq6_18 => (intro wS hSw; (try dsimp only at hSw); go_simp; try (with_reducible rfl))
          (try simp only [Act.put, List.setIfInBounds_toArray, List.set_cons_zero, List.set_cons_succ])
          refine wpAnyH_ready (rs := [15]) (by kernel_rfl) (by simp) ?_
          refine AllReadyH.cons rfl (fun K hK => ?_) AllReadyH.nil
          go_simp
          go_at_call 49
          refine (FR.out _).mono ?_
          rintro e wq6_19 ⟨rfl, bkq6_19⟩
          have hBn := below_next hBk bkq6_19
          clear hBk bkq6_19
          have hBk := hBn
          clear hBn
          try go_simp
          refine hK.out _ _ ?_ (fun hHeld => ?_)
          · (try dsimp only); exact hBk
          clear hK K
          (try simp only [Act.put, List.setIfInBounds_toArray, List.set_cons_zero, List.set_cons_succ])
          refine take_d (i := 16) (v := ?vq6_20) rfl (by rfl) (by kernel_rfl) (by kernel_rfl) (by kernel_rfl) (fun _ _ _ h => h) (Or.inl ⟨by rfl, ?hq6_20⟩) (by assumption) ?rq6_20
          case hq6_20 => (intro wS hSw; (try dsimp only at hSw); go_simp; try (with_reducible rfl))
          (try simp only [Act.put, List.setIfInBounds_toArray, List.set_cons_zero, List.set_cons_succ])
          refine take_d (i := 20) (v := ?vq6_21) rfl (by rfl) (by kernel_rfl) (by kernel_rfl) (by kernel_rfl) (fun _ _ _ h => h) (Or.inl ⟨by rfl, ?hq6_21⟩) (by assumption) ?rq6_21
          case hq6_21 => (intro wS hSw; (try dsimp only at hSw); go_simp; try (with_reducible rfl))
          (try simp only [Act.put, List.setIfInBounds_toArray, List.set_cons_zero, List.set_cons_succ])
          refine take_d (i := 21) (v := ?vq6_22) rfl (by rfl) (by kernel_rfl) (by kernel_rfl) (by kernel_rfl) (fun _ _ _ h => h) (Or.inl ⟨by rfl, ?hq6_22⟩) (by assumption) ?rq6_22
          case hq6_22 => (intro wS hSw; (try dsimp only at hSw); go_simp; try (with_reducible rfl))
          (try simp only [Act.put, List.setIfInBounds_toArray, List.set_cons_zero, List.set_cons_succ])
          refine take_d (i := 22) (v := ?vq6_23) rfl (by rfl) (by kernel_rfl) (by kernel_rfl) (by kernel_rfl) (fun _ _ _ h => h) (Or.inl ⟨by rfl, ?hq6_23⟩) (by assumption) ?rq6_23
          case hq6_23 => (intro wS hSw; (try dsimp only at hSw); go_simp; try (with_reducible rfl))
          (try simp only [Act.put, List.setIfInBounds_toArray, List.set_cons_zero, List.set_cons_succ])
          refine wpAnyH_done (by kernel_rfl) ?_ _
          clear JA0 JA1 JAl JB0 JB1 JBl JC0 JC1 JCl JJ0 JJ1 JJl JM0 JM1 JMl lB
          generalize wq6_19 = w17 at hBk ⊢
          replace JA := JA.below hBk
          replace JB := JB.below hBk
          replace JC := JC.below hBk
          replace JJ := JJ.below hBk
          replace JM := JM.below hBk
          replace B := below_next B hBk
          clear hBk
          go_wp2
          go_ret
          exact ⟨rfl, B⟩
        · skip
          have JA0 := JA.2.1
          have JA1 := JA.2.2
          have JAl := JA.1
          have JB0 := JB.2.1
          have JB1 := JB.2.2
          have JBl := JB.1
          have JC0 := JC.2.1
          have JC1 := JC.2.2
          have JCl := JC.1
          have JJ0 := JJ.2.1
          have JJ1 := JJ.2.2
          have JJl := JJ.1
          have JM0 := JM.2.1
          have JM1 := JM.2.2
          have JMl := JM.1
          have lB := B.size
          go_wp2_with fail
          refine (Icb.out _).mono ?_
          rintro e w17 ⟨rfl, z⟩
          clear JA0 JA1 JAl JB0 JB1 JBl JC0 JC1 JCl JJ0 JJ1 JJl JM0 JM1 JMl lB
          replace JA := JA.below z
          replace JB := JB.below z
          replace JC := JC.below z
          replace JJ := JJ.below z
          replace JM := JM.below z
          replace B := below_next B z
          clear z
          cases cb
          · skip
            have hce := hce.out
            have JA0 := JA.2.1
            have JA1 := JA.2.2
            have JAl := JA.1
            have JB0 := JB.2.1
            have JB1 := JB.2.2
            have JBl := JB.1
            have JC0 := JC.2.1
            have JC1 := JC.2.2
            have JCl := JC.1
            have JJ0 := JJ.2.1
            have JJ1 := JJ.2.2
            have JJl := JJ.1
            have JM0 := JM.2.1
            have JM1 := JM.2.2
            have JMl := JM.1
            have lB := B.size
            go_wp2_with fail
            refine wp_region_held_drew (S := (fun w' : World => Below w17.heap.size w17 w')) (by kernel_rfl) ?_ (fun hHeld => ?_)
            · (try dsimp only); first | (with_reducible exact below_dr _) | (with_reducible exact Below.refl _ _) | exact below_dr _
            have hBk := below_dr w17
            refine take_d (i := 0) (v := ?vq7_1) rfl (by rfl) (by kernel_rfl) (by kernel_rfl) (by kernel_rfl) (fun _ _ _ h => h) (Or.inl ⟨by rfl, ?hq7_1⟩) (by assumption) ?rq7_1
            case hq7_1 => (intro wS hSw; (try dsimp only at hSw); have hcq0 := cn hSw JA0; have hcq1 := cn hSw JA1; go_simp; try (with_reducible rfl))
            (try simp only [Act.put, List.setIfInBounds_toArray, List.set_cons_zero, List.set_cons_succ])
            refine take_d (i := 1) (v := ?vq7_2) rfl (by rfl) (by kernel_rfl) (by kernel_rfl) (by kernel_rfl) (fun _ _ _ h => h) (Or.inl ⟨by rfl, ?hq7_2⟩) (by assumption) ?rq7_2
            case hq7_2 => (intro wS hSw; (try dsimp only at hSw); go_simp; try (with_reducible rfl))
            (try simp only [Act.put, List.setIfInBounds_toArray, List.set_cons_zero, List.set_cons_succ])
            refine take_d (i := 2) (v := ?vq7_3) rfl (by rfl) (by kernel_rfl) (by kernel_rfl) (by kernel_rfl) (fun _ _ _ h => h) (Or.inl ⟨by rfl, ?hq7_3⟩) (by assumption) ?rq7_3
            case hq7_3 => (intro wS hSw; (try dsimp only at hSw); have hcq0 := cn hSw JA0; have hcq1 := cn hSw JA1; go_simp; try (with_reducible rfl))
            (try simp only [Act.put, List.setIfInBounds_toArray, List.set_cons_zero, List.set_cons_succ])
            refine wpAnyH_ready (rs := [3]) (by kernel_rfl) (by simp) ?_
            refine AllReadyH.cons rfl (fun K hK => ?_) AllReadyH.nil
            go_simp
            go_at_call 46
            refine (HL.out _).mono ?_
            rintro e wq7_4 ⟨rfl, bkq7_4⟩
            have hBn := below_next hBk bkq7_4
            clear hBk bkq7_4
            have hBk := hBn
            clear hBn
            try go_simp
            refine hK.out _ _ ?_ (fun hHeld => ?_)
            · (try dsimp only); exact hBk
            clear hK K
            (try simp only [Act.put, List.setIfInBounds_toArray, List.set_cons_zero, List.set_cons_succ])
            refine take_d (i := 4) (v := ?vq7_5) rfl (by rfl) (by kernel_rfl) (by kernel_rfl) (by kernel_rfl) (fun _ _ _ h => h) (Or.inl ⟨by rfl, ?hq7_5⟩) (by assumption) ?rq7_5
            case hq7_5 => (intro wS hSw; (try dsimp only at hSw); go_simp; try (with_reducible rfl))
            (try simp only [Act.put, List.setIfInBounds_toArray, List.set_cons_zero, List.set_cons_succ])
            refine take_d (i := 5) (v := ?vq7_6) rfl (by rfl) (by kernel_rfl) (by kernel_rfl) (by kernel_rfl) (fun _ _ _ h => h) (Or.inl ⟨by rfl, ?hq7_6⟩) (by assumption) ?rq7_6
            case hq7_6 => (intro wS hSw; (try dsimp only at hSw); have hcq0 := cn hSw JA0; have hcq1 := cn hSw JA1; go_simp; try (with_reducible rfl))
            (try simp only [Act.put, List.setIfInBounds_toArray, List.set_cons_zero, List.set_cons_succ])
            refine take_d (i := 6) (v := ?vq7_7) rfl (by rfl) (by kernel_rfl) (by kernel_rfl) (by kernel_rfl) (fun _ _ _ h => h) (Or.inl ⟨by rfl, ?hq7_7⟩) (by assumption) ?rq7_7
            case hq7_7 => (intro wS hSw; (try dsimp only at hSw); go_simp; try (with_reducible rfl))
            (try simp only [Act.put, List.setIfInBounds_toArray, List.set_cons_zero, List.set_cons_succ])
            refine take_d (i := 7) (v := ?vq7_8) rfl (by rfl) (by kernel_rfl) (by kernel_rfl) (by kernel_rfl) (fun _ _ _ h => h) (Or.inl ⟨by rfl, ?hq7_8⟩) (by assumption) ?rq7_8
            case hq7_8 => (intro wS hSw; (try dsimp only at hSw); have hcq0 := cn hSw JA0; have hcq1 := cn hSw JA1; go_simp; try (with_reducible rfl))
            (try simp only [Act.put, List.setIfInBounds_toArray, List.set_cons_zero, List.set_cons_succ])
            refine take_d (i := 8) (v := ?vq7_9) rfl (by rfl) (by kernel_rfl) (by kernel_rfl) (by kernel_rfl) (fun _ _ _ h => h) (Or.inl ⟨by rfl, ?hq7_9⟩) (by assumption) ?rq7_9
            case hq7_9 => (intro wS hSw; (try dsimp only at hSw); go_simp; try (with_reducible rfl))
            (try simp only [Act.put, List.setIfInBounds_toArray, List.set_cons_zero, List.set_cons_succ])
            refine take_d (i := 9) (v := ?vq7_10) rfl (by rfl) (by kernel_rfl) (by kernel_rfl) (by kernel_rfl) (fun _ _ _ h => h) (Or.inl ⟨by rfl, ?hq7_10⟩) (by assumption) ?rq7_10
            case hq7_10 => (intro wS hSw; (try dsimp only at hSw); have hcq0 := cn hSw JA0; have hcq1 := cn hSw JA1; go_simp; try (with_reducible rfl))
            (try simp only [Act.put, List.setIfInBounds_toArray, List.set_cons_zero, List.set_cons_succ])
            refine take_d (i := 10) (v := ?vq7_11) rfl (by rfl) (by kernel_rfl) (by kernel_rfl) (by kernel_rfl) (fun _ _ _ h => h) (Or.inl ⟨by rfl, ?hq7_11⟩) (by assumption) ?rq7_11
            case hq7_11 => (intro wS hSw; (try dsimp only at hSw); go_simp; try (with_reducible rfl))
            (try simp only [Act.put, List.setIfInBounds_toArray, List.set_cons_zero, List.set_cons_succ])
            refine wpAnyH_ready (rs := [11]) (by kernel_rfl) (by simp) ?_
            refine AllReadyH.cons rfl (fun K hK => ?_) AllReadyH.nil
            go_simp
            go_at_call 46
            refine (HT.out _).mono ?_
            rintro e wq7_12 ⟨rfl, bkq7_12⟩
            have hBn := below_next hBk bkq7_12
            clear hBk bkq7_12
            have hBk := hBn
            clear hBn
            try go_simp
            refine hK.out _ _ ?_ (fun hHeld => ?_)
            · (try dsimp only); exact hBk
            clear hK K
            (try simp only [Act.put, List.setIfInBounds_toArray, List.set_cons_zero, List.set_cons_succ])
            refine take_d (i := 12) (v := ?vq7_13) rfl (by rfl) (by kernel_rfl) (by kernel_rfl) (by kernel_rfl) (fun _ _ _ h => h) (Or.inl ⟨by rfl, ?hq7_13⟩) (by assumption) ?rq7_13
            case hq7_13 => (intro wS hSw; (try dsimp only at hSw); go_simp; try (with_reducible rfl))
            (try simp only [Act.put, List.setIfInBounds_toArray, List.set_cons_zero, List.set_cons_succ])
            refine take_d (i := 13) (v := ?vq7_14) rfl (by rfl) (by kernel_rfl) (by kernel_rfl) (by kernel_rfl) (fun _ _ _ h => h) (Or.inl ⟨by rfl, ?hq7_14⟩) (by assumption) ?rq7_14
            case hq7_14 => (intro wS hSw; (try dsimp only at hSw); go_simp; try (with_reducible rfl))
            (try simp only [Act.put, List.setIfInBounds_toArray, List.set_cons_zero, List.set_cons_succ])
            refine take_d (i := 14) (v := ?vq7_15) rfl (by rfl) (by kernel_rfl) (by kernel_rfl) (by kernel_rfl) (fun _ _ _ h => h) (Or.inl ⟨by rfl, ?hq7_15⟩) (by assumption) ?rq7_15
            case hq7_15 => (intro wS hSw; (try dsimp only at hSw); have hcq0 := cn hSw JA0; have hcq1 := cn hSw JA1; go_simp; try (with_reducible rfl))
            (try simp only [Act.put, List.setIfInBounds_toArray, List.set_cons_zero, List.set_cons_succ])
            refine take_d (i := 17) (v := ?vq7_16) rfl (by rfl) (by kernel_rfl) (by kernel_rfl) (by kernel_rfl) (fun _ _ _ h => h) (Or.inl ⟨by rfl, ?hq7_16⟩) (by assumption) ?rq7_16
            case hq7_16 => (intro wS hSw; (try dsimp only at hSw); go_simp; try (with_reducible rfl))
            (try simp only [Act.put, List.setIfInBounds_toArray, List.set_cons_zero, List.set_cons_succ])
            refine take_d (i := 18) (v := ?vq7_17) rfl (by rfl) (by kernel_rfl) (by kernel_rfl) (by kernel_rfl) (fun _ _ _ h => h) (Or.inl ⟨by rfl, ?hq7_17⟩) (by assumption) ?rq7_17
            case hq7_17 => (intro wS hSw; (try dsimp only at hSw); have hcq0 := cn hSw JA0; have hcq1 := cn hSw JA1; go_simp; try (with_reducible rfl))
            (try simp only [Act.put, List.setIfInBounds_toArray, List.set_cons_zero, List.set_cons_succ])
            refine take_d (i := 19) (v := ?vq7_18) rfl (by rfl) (by kernel_rfl) (by kernel_rfl) (by kernel_rfl) (fun _ _ _ h => h) (Or.inl ⟨by rfl, ?hq7_18⟩) (by assumption) ?rq7_18
            case hq7_18 => (intro wS hSw; (try dsimp only at hSw); go_simp; try (with_reducible rfl))
            (try simp only [Act.put, List.setIfInBounds_toArray, List.set_cons_zero, List.set_cons_succ])
            refine wpAnyH_ready (rs := [15]) (by kernel_rfl) (by simp) ?_
            refine AllReadyH.cons rfl (fun K hK => ?_) AllReadyH.nil
            go_simp
            go_at_call 49
            refine (FR.out _).mono ?_
            rintro e wq7_19 ⟨rfl, bkq7_19⟩
            have hBn := below_next hBk bkq7_19
            clear hBk bkq7_19
            have hBk := hBn
            clear hBn
            try go_simp
            refine hK.out _ _ ?_ (fun hHeld => ?_)
            · (try dsimp only); exact hBk
            clear hK K
            (try simp only [Act.put, List.setIfInBounds_toArray, List.set_cons_zero, List.set_cons_succ])
            refine take_d (i := 16) (v := ?vq7_20) rfl (by rfl) (by kernel_rfl) (by kernel_rfl) (by kernel_rfl) (fun _ _ _ h => h) (Or.inl ⟨by rfl, ?hq7_20⟩) (by assumption) ?rq7_20
            case hq7_20 => (intro wS hSw; (try dsimp only at hSw); go_simp; try (with_reducible rfl))
            (try simp only [Act.put, List.setIfInBounds_toArray, List.set_cons_zero, List.set_cons_succ])
            refine take_d (i := 20) (v := ?vq7_21) rfl (by rfl) (by kernel_rfl) (by kernel_rfl) (by kernel_rfl) (fun _ _ _ h => h) (Or.inl ⟨by rfl, ?hq7_21⟩) (by assumption) ?rq7_21
            case hq7_21 => (intro wS hSw; (try dsimp only at hSw); go_simp; try (with_reducible rfl))
            (try simp only [Act.put, List.setIfInBounds_toArray, List.set_cons_zero, List.set_cons_succ])
            refine take_d (i := 21) (v := ?vq7_22) rfl (by rfl) (by kernel_rfl) (by kernel_rfl) (by kernel_rfl) (fun _ _ _ h => h) (Or.inl ⟨by rfl, ?hq7_22⟩) (by assumption) ?rq7_22
            case hq7_22 => (intro wS hSw; (try dsimp only at hSw); go_simp; try (with_reducible rfl))
            (try simp only [Act.put, List.setIfInBounds_toArray, List.set_cons_zero, List.set_cons_succ])
            refine take_d (i := 22) (v := ?vq7_23) rfl (by rfl) (by kernel_rfl) (by kernel_rfl) (by kernel_rfl) (fun _ _ _ h => h) (Or.inl ⟨by rfl, ?hq7_23⟩) (by assumption) ?rq7_23
            case hq7_23 => (intro wS hSw; (try dsimp only at hSw); go_simp; try (with_reducible rfl))
            (try simp only [Act.put, List.setIfInBounds_toArray, List.set_cons_zero, List.set_cons_succ])
            refine wpAnyH_done (by kernel_rfl) ?_ _
            clear JA0 JA1 JAl JB0 JB1 JBl JC0 JC1 JCl JJ0 JJ1 JJl JM0 JM1 JMl lB
            generalize wq7_19 = w18 at hBk ⊢
            replace JA := JA.below hBk
            replace JB := JB.below hBk
            replace JC := JC.below hBk
            replace JJ := JJ.below hBk
            replace JM := JM.below hBk
            replace B := below_next B hBk
            clear hBk
            go_wp2
            go_ret
            exact ⟨rfl, B⟩
          · skip
            obtain rfl : cm = true := (cM.out (by trivial) (by trivial)).2
            have JA0 := JA.2.1
            have JA1 := JA.2.2
            have JAl := JA.1
            have JB0 := JB.2.1
            have JB1 := JB.2.2
            have JBl := JB.1
            have JC0 := JC.2.1
            have JC1 := JC.2.2
            have JCl := JC.1
            have JJ0 := JJ.2.1
            have JJ1 := JJ.2.2
            have JJl := JJ.1
            have JM0 := JM.2.1
            have JM1 := JM.2.2
            have JMl := JM.1
            have lB := B.size
            go_wp2_with fail
            refine (Icm.out _).mono ?_
            rintro e w18 ⟨rfl, z⟩
            clear JA0 JA1 JAl JB0 JB1 JBl JC0 JC1 JCl JJ0 JJ1 JJl JM0 JM1 JMl lB
            replace JA := JA.below z
            replace JB := JB.below z
            replace JC := JC.below z
            replace JJ := JJ.below z
            replace JM := JM.below z
            replace B := below_next B z
            clear z
            have hce := hce.out
            have JA0 := JA.2.1
            have JA1 := JA.2.2
            have JAl := JA.1
            have JB0 := JB.2.1
            have JB1 := JB.2.2
            have JBl := JB.1
            have JC0 := JC.2.1
            have JC1 := JC.2.2
            have JCl := JC.1
            have JJ0 := JJ.2.1
            have JJ1 := JJ.2.2
            have JJl := JJ.1
            have JM0 := JM.2.1
            have JM1 := JM.2.2
            have JMl := JM.1
            have lB := B.size
            go_wp2_with fail
            refine wp_region_held_drew (S := (fun w' : World => Below w18.heap.size w18 w')) (by kernel_rfl) ?_ (fun hHeld => ?_)
            · (try dsimp only); first | (with_reducible exact below_dr _) | (with_reducible exact Below.refl _ _) | exact below_dr _
            have hBk := below_dr w18
            refine take_d (i := 0) (v := ?vq8_1) rfl (by rfl) (by kernel_rfl) (by kernel_rfl) (by kernel_rfl) (fun _ _ _ h => h) (Or.inl ⟨by rfl, ?hq8_1⟩) (by assumption) ?rq8_1
            case hq8_1 => (intro wS hSw; (try dsimp only at hSw); have hcq0 := cn hSw JA0; have hcq1 := cn hSw JA1; go_simp; try (with_reducible rfl))
            (try simp only [Act.put, List.setIfInBounds_toArray, List.set_cons_zero, List.set_cons_succ])
            refine take_d (i := 1) (v := ?vq8_2) rfl (by rfl) (by kernel_rfl) (by kernel_rfl) (by kernel_rfl) (fun _ _ _ h => h) (Or.inl ⟨by rfl, ?hq8_2⟩) (by assumption) ?rq8_2
            case hq8_2 => (intro wS hSw; (try dsimp only at hSw); go_simp; try (with_reducible rfl))
            (try simp only [Act.put, List.setIfInBounds_toArray, List.set_cons_zero, List.set_cons_succ])
            refine take_d (i := 2) (v := ?vq8_3) rfl (by rfl) (by kernel_rfl) (by kernel_rfl) (by kernel_rfl) (fun _ _ _ h => h) (Or.inl ⟨by rfl, ?hq8_3⟩) (by assumption) ?rq8_3
            case hq8_3 => (intro wS hSw; (try dsimp only at hSw); have hcq0 := cn hSw JA0; have hcq1 := cn hSw JA1; go_simp; try (with_reducible rfl))
            (try simp only [Act.put, List.setIfInBounds_toArray, List.set_cons_zero, List.set_cons_succ])
            refine wpAnyH_ready (rs := [3]) (by kernel_rfl) (by simp) ?_
            refine AllReadyH.cons rfl (fun K hK => ?_) AllReadyH.nil
            go_simp
            go_at_call 46
            refine (HL.out _).mono ?_
            rintro e wq8_4 ⟨rfl, bkq8_4⟩
            have hBn := below_next hBk bkq8_4
            clear hBk bkq8_4
            have hBk := hBn
            clear hBn
            try go_simp
            refine hK.out _ _ ?_ (fun hHeld => ?_)
            · (try dsimp only); exact hBk
            clear hK K
            (try simp only [Act.put, List.setIfInBounds_toArray, List.set_cons_zero, List.set_cons_succ])
            refine take_d (i := 4) (v := ?vq8_5) rfl (by rfl) (by kernel_rfl) (by kernel_rfl) (by kernel_rfl) (fun _ _ _ h => h) (Or.inl ⟨by rfl, ?hq8_5⟩) (by assumption) ?rq8_5
            case hq8_5 => (intro wS hSw; (try dsimp only at hSw); go_simp; try (with_reducible rfl))
            (try simp only [Act.put, List.setIfInBounds_toArray, List.set_cons_zero, List.set_cons_succ])
            refine take_d (i := 5) (v := ?vq8_6) rfl (by rfl) (by kernel_rfl) (by kernel_rfl) (by kernel_rfl) (fun _ _ _ h => h) (Or.inl ⟨by rfl, ?hq8_6⟩) (by assumption) ?rq8_6
            case hq8_6 => (intro wS hSw; (try dsimp only at hSw); have hcq0 := cn hSw JA0; have hcq1 := cn hSw JA1; go_simp; try (with_reducible rfl))
            (try simp only [Act.put, List.setIfInBounds_toArray, List.set_cons_zero, List.set_cons_succ])
            refine take_d (i := 6) (v := ?vq8_7) rfl (by rfl) (by kernel_rfl) (by kernel_rfl) (by kernel_rfl) (fun _ _ _ h => h) (Or.inl ⟨by rfl, ?hq8_7⟩) (by assumption) ?rq8_7
            case hq8_7 => (intro wS hSw; (try dsimp only at hSw); go_simp; try (with_reducible rfl))
            (try simp only [Act.put, List.setIfInBounds_toArray, List.set_cons_zero, List.set_cons_succ])
            refine take_d (i := 7) (v := ?vq8_8) rfl (by rfl) (by kernel_rfl) (by kernel_rfl) (by kernel_rfl) (fun _ _ _ h => h) (Or.inl ⟨by rfl, ?hq8_8⟩) (by assumption) ?rq8_8
            case hq8_8 => (intro wS hSw; (try dsimp only at hSw); have hcq0 := cn hSw JA0; have hcq1 := cn hSw JA1; go_simp; try (with_reducible rfl))
            (try simp only [Act.put, List.setIfInBounds_toArray, List.set_cons_zero, List.set_cons_succ])
            refine take_d (i := 8) (v := ?vq8_9) rfl (by rfl) (by kernel_rfl) (by kernel_rfl) (by kernel_rfl) (fun _ _ _ h => h) (Or.inl ⟨by rfl, ?hq8_9⟩) (by assumption) ?rq8_9
            case hq8_9 => (intro wS hSw; (try dsimp only at hSw); go_simp; try (with_reducible rfl))
            (try simp only [Act.put, List.setIfInBounds_toArray, List.set_cons_zero, List.set_cons_succ])
            refine take_d (i := 9) (v := ?vq8_10) rfl (by rfl) (by kernel_rfl) (by kernel_rfl) (by kernel_rfl) (fun _ _ _ h => h) (Or.inl ⟨by rfl, ?hq8_10⟩) (by assumption) ?rq8_10
            case hq8_10 => (intro wS hSw; (try dsimp only at hSw); have hcq0 := cn hSw JA0; have hcq1 := cn hSw JA1; go_simp; try (with_reducible rfl))
            (try simp only [Act.put, List.setIfInBounds_toArray, List.set_cons_zero, List.set_cons_succ])
            refine take_d (i := 10) (v := ?vq8_11) rfl (by rfl) (by kernel_rfl) (by kernel_rfl) (by kernel_rfl) (fun _ _ _ h => h) (Or.inl ⟨by rfl, ?hq8_11⟩) (by assumption) ?rq8_11
            case hq8_11 => (intro wS hSw; (try dsimp only at hSw); go_simp; try (with_reducible rfl))
            (try simp only [Act.put, List.setIfInBounds_toArray, List.set_cons_zero, List.set_cons_succ])
            refine wpAnyH_ready (rs := [11]) (by kernel_rfl) (by simp) ?_
            refine AllReadyH.cons rfl (fun K hK => ?_) AllReadyH.nil
            go_simp
            go_at_call 46
            refine (HT.out _).mono ?_
            rintro e wq8_12 ⟨rfl, bkq8_12⟩
            have hBn := below_next hBk bkq8_12
            clear hBk bkq8_12
            have hBk := hBn
            clear hBn
            try go_simp
            refine hK.out _ _ ?_ (fun hHeld => ?_)
            · (try dsimp only); exact hBk
            clear hK K
            (try simp only [Act.put, List.setIfInBounds_toArray, List.set_cons_zero, List.set_cons_succ])
            refine take_d (i := 12) (v := ?vq8_13) rfl (by rfl) (by kernel_rfl) (by kernel_rfl) (by kernel_rfl) (fun _ _ _ h => h) (Or.inl ⟨by rfl, ?hq8_13⟩) (by assumption) ?rq8_13
            case hq8_13 => (intro wS hSw; (try dsimp only at hSw); go_simp; try (with_reducible rfl))
            (try simp only [Act.put, List.setIfInBounds_toArray, List.set_cons_zero, List.set_cons_succ])
            refine take_d (i := 13) (v := ?vq8_14) rfl (by rfl) (by kernel_rfl) (by kernel_rfl) (by kernel_rfl) (fun _ _ _ h => h) (Or.inl ⟨by rfl, ?hq8_14⟩) (by assumption) ?rq8_14
            case hq8_14 => (intro wS hSw; (try dsimp only at hSw); go_simp; try (with_reducible rfl))
            (try simp only [Act.put, List.setIfInBounds_toArray, List.set_cons_zero, List.set_cons_succ])
            refine take_d (i := 14) (v := ?vq8_15) rfl (by rfl) (by kernel_rfl) (by kernel_rfl) (by kernel_rfl) (fun _ _ _ h => h) (Or.inl ⟨by rfl, ?hq8_15⟩) (by assumption) ?rq8_15
            case hq8_15 => (intro wS hSw; (try dsimp only at hSw); have hcq0 := cn hSw JA0; have hcq1 := cn hSw JA1; go_simp; try (with_reducible rfl))
            (try simp only [Act.put, List.setIfInBounds_toArray, List.set_cons_zero, List.set_cons_succ])
            refine take_d (i := 17) (v := ?vq8_16) rfl (by rfl) (by kernel_rfl) (by kernel_rfl) (by kernel_rfl) (fun _ _ _ h => h) (Or.inl ⟨by rfl, ?hq8_16⟩) (by assumption) ?rq8_16
            case hq8_16 => (intro wS hSw; (try dsimp only at hSw); go_simp; try (with_reducible rfl))
            (try simp only [Act.put, List.setIfInBounds_toArray, List.set_cons_zero, List.set_cons_succ])
            refine take_d (i := 18) (v := ?vq8_17) rfl (by rfl) (by kernel_rfl) (by kernel_rfl) (by kernel_rfl) (fun _ _ _ h => h) (Or.inl ⟨by rfl, ?hq8_17⟩) (by assumption) ?rq8_17
            case hq8_17 => (intro wS hSw; (try dsimp only at hSw); have hcq0 := cn hSw JA0; have hcq1 := cn hSw JA1; go_simp; try (with_reducible rfl))
            (try simp only [Act.put, List.setIfInBounds_toArray, List.set_cons_zero, List.set_cons_succ])
            refine take_d (i := 19) (v := ?vq8_18) rfl (by rfl) (by kernel_rfl) (by kernel_rfl) (by kernel_rfl) (fun _ _ _ h => h) (Or.inl ⟨by rfl, ?hq8_18⟩) (by assumption) ?rq8_18
            case hq8_18 => (intro wS hSw; (try dsimp only at hSw); go_simp; try (with_reducible rfl))
            (try simp only [Act.put, List.setIfInBounds_toArray, List.set_cons_zero, List.set_cons_succ])
            refine wpAnyH_ready (rs := [15]) (by kernel_rfl) (by simp) ?_
            refine AllReadyH.cons rfl (fun K hK => ?_) AllReadyH.nil
            go_simp
            go_at_call 49
            refine (FR.out _).mono ?_
            rintro e wq8_19 ⟨rfl, bkq8_19⟩
            have hBn := below_next hBk bkq8_19
            clear hBk bkq8_19
            have hBk := hBn
            clear hBn
            try go_simp
            refine hK.out _ _ ?_ (fun hHeld => ?_)
            · (try dsimp only); exact hBk
            clear hK K
            (try simp only [Act.put, List.setIfInBounds_toArray, List.set_cons_zero, List.set_cons_succ])
            refine take_d (i := 16) (v := ?vq8_20) rfl (by rfl) (by kernel_rfl) (by kernel_rfl) (by kernel_rfl) (fun _ _ _ h => h) (Or.inl ⟨by rfl, ?hq8_20⟩) (by assumption) ?rq8_20
            case hq8_20 => (intro wS hSw; (try dsimp only at hSw); go_simp; try (with_reducible rfl))
            (try simp only [Act.put, List.setIfInBounds_toArray, List.set_cons_zero, List.set_cons_succ])
            refine take_d (i := 20) (v := ?vq8_21) rfl (by rfl) (by kernel_rfl) (by kernel_rfl) (by kernel_rfl) (fun _ _ _ h => h) (Or.inl ⟨by rfl, ?hq8_21⟩) (by assumption) ?rq8_21
            case hq8_21 => (intro wS hSw; (try dsimp only at hSw); go_simp; try (with_reducible rfl))
            (try simp only [Act.put, List.setIfInBounds_toArray, List.set_cons_zero, List.set_cons_succ])
            refine take_d (i := 21) (v := ?vq8_22) rfl (by rfl) (by kernel_rfl) (by kernel_rfl) (by kernel_rfl) (fun _ _ _ h => h) (Or.inl ⟨by rfl, ?hq8_22⟩) (by assumption) ?rq8_22
            case hq8_22 => (intro wS hSw; (try dsimp only at hSw); go_simp; try (with_reducible rfl))
            (try simp only [Act.put, List.setIfInBounds_toArray, List.set_cons_zero, List.set_cons_succ])
            refine take_d (i := 22) (v := ?vq8_23) rfl (by rfl) (by kernel_rfl) (by kernel_rfl) (by kernel_rfl) (fun _ _ _ h => h) (Or.inl ⟨by rfl, ?hq8_23⟩) (by assumption) ?rq8_23
            case hq8_23 => (intro wS hSw; (try dsimp only at hSw); go_simp; try (with_reducible rfl))
            (try simp only [Act.put, List.setIfInBounds_toArray, List.set_cons_zero, List.set_cons_succ])
            refine wpAnyH_done (by kernel_rfl) ?_ _
            clear JA0 JA1 JAl JB0 JB1 JBl JC0 JC1 JCl JJ0 JJ1 JJl JM0 JM1 JMl lB
            generalize wq8_19 = w19 at hBk ⊢
            replace JA := JA.below hBk
            replace JB := JB.below hBk
            replace JC := JC.below hBk
            replace JJ := JJ.below hBk
            replace JM := JM.below hBk
            replace B := below_next B hBk
            clear hBk
            go_wp2
            go_ret
            exact ⟨rfl, B⟩
      · skip
        clear mA mB
        have hNo : ca = true → cb = false := fun h => by
          cases hh : cb
          · rfl
          · exact absurd (cM.out h hh).1 (by decide)
        replace hNo := hid hNo
        clear cM
        have JA0 := JA.2.1
        have JA1 := JA.2.2
        have JAl := JA.1
        have JB0 := JB.2.1
        have JB1 := JB.2.2
        have JBl := JB.1
        have JC0 := JC.2.1
        have JC1 := JC.2.2
        have JCl := JC.1
        have JJ0 := JJ.2.1
        have JJ1 := JJ.2.2
        have JJl := JJ.1
        have lB := B.size
        go_wp2_with fail
        clear JA0 JA1 JAl JB0 JB1 JBl JC0 JC1 JCl JJ0 JJ1 JJl lB
        have JM : TC (w12.alloc (.cells #[.int .u64 (ub t0.1), .int .u64 (ub t0.2)] 24)) w12.heap.size t0 := TC.new rfl
        replace JA := JA.alloc (.cells #[.int .u64 (ub t0.1), .int .u64 (ub t0.2)] 24)
        replace JB := JB.alloc (.cells #[.int .u64 (ub t0.1), .int .u64 (ub t0.2)] 24)
        replace JC := JC.alloc (.cells #[.int .u64 (ub t0.1), .int .u64 (ub t0.2)] 24)
        replace JJ := JJ.alloc (.cells #[.int .u64 (ub t0.1), .int .u64 (ub t0.2)] 24)
        replace B := Below.alloc B B.size (.cells #[.int .u64 (ub t0.1), .int .u64 (ub t0.2)] 24)
        generalize w12.alloc (.cells #[.int .u64 (ub t0.1), .int .u64 (ub t0.2)] 24) = w13 at *
        generalize w12.heap.size = g2 at *
        have JA0 := JA.2.1
        have JA1 := JA.2.2
        have JAl := JA.1
        have JB0 := JB.2.1
        have JB1 := JB.2.2
        have JBl := JB.1
        have JC0 := JC.2.1
        have JC1 := JC.2.2
        have JCl := JC.1
        have JJ0 := JJ.2.1
        have JJ1 := JJ.2.2
        have JJl := JJ.1
        have JM0 := JM.2.1
        have JM1 := JM.2.2
        have JMl := JM.1
        have lB := B.size
        go_wp2_with fail
        refine (Ica.out _).mono ?_
        rintro e w14 ⟨rfl, z⟩
        clear JA0 JA1 JAl JB0 JB1 JBl JC0 JC1 JCl JJ0 JJ1 JJl JM0 JM1 JMl lB
        replace JA := JA.below z
        replace JB := JB.below z
        replace JC := JC.below z
        replace JJ := JJ.below z
        replace JM := JM.below z
        replace B := below_next B z
        clear z
        cases ca
        · skip
          have hce := hce.out
          have JA0 := JA.2.1
          have JA1 := JA.2.2
          have JAl := JA.1
          have JB0 := JB.2.1
          have JB1 := JB.2.2
          have JBl := JB.1
          have JC0 := JC.2.1
          have JC1 := JC.2.2
          have JCl := JC.1
          have JJ0 := JJ.2.1
          have JJ1 := JJ.2.2
          have JJl := JJ.1
          have JM0 := JM.2.1
          have JM1 := JM.2.2
          have JMl := JM.1
          have lB := B.size
          go_wp2_with fail
          refine wp_region_held_drew (S := (fun w' : World => Below w14.heap.size w14 w')) (by kernel_rfl) ?_ (fun hHeld => ?_)
          · (try dsimp only); first | (with_reducible exact below_dr _) | (with_reducible exact Below.refl _ _) | exact below_dr _
          have hBk := below_dr w14
          refine take_d (i := 0) (v := ?vq9_1) rfl (by rfl) (by kernel_rfl) (by kernel_rfl) (by kernel_rfl) (fun _ _ _ h => h) (Or.inl ⟨by rfl, ?hq9_1⟩) (by assumption) ?rq9_1
          case hq9_1 => (intro wS hSw; (try dsimp only at hSw); have hcq0 := cn hSw JA0; have hcq1 := cn hSw JA1; go_simp; try (with_reducible rfl))
          (try simp only [Act.put, List.setIfInBounds_toArray, List.set_cons_zero, List.set_cons_succ])
          refine take_d (i := 1) (v := ?vq9_2) rfl (by rfl) (by kernel_rfl) (by kernel_rfl) (by kernel_rfl) (fun _ _ _ h => h) (Or.inl ⟨by rfl, ?hq9_2⟩) (by assumption) ?rq9_2
          case hq9_2 => (intro wS hSw; (try dsimp only at hSw); go_simp; try (with_reducible rfl))
          (try simp only [Act.put, List.setIfInBounds_toArray, List.set_cons_zero, List.set_cons_succ])
          refine take_d (i := 2) (v := ?vq9_3) rfl (by rfl) (by kernel_rfl) (by kernel_rfl) (by kernel_rfl) (fun _ _ _ h => h) (Or.inl ⟨by rfl, ?hq9_3⟩) (by assumption) ?rq9_3
          case hq9_3 => (intro wS hSw; (try dsimp only at hSw); have hcq0 := cn hSw JA0; have hcq1 := cn hSw JA1; go_simp; try (with_reducible rfl))
          (try simp only [Act.put, List.setIfInBounds_toArray, List.set_cons_zero, List.set_cons_succ])
          refine wpAnyH_ready (rs := [3]) (by kernel_rfl) (by simp) ?_
          refine AllReadyH.cons rfl (fun K hK => ?_) AllReadyH.nil
          go_simp
          go_at_call 46
          refine (HL.out _).mono ?_
          rintro e wq9_4 ⟨rfl, bkq9_4⟩
          have hBn := below_next hBk bkq9_4
          clear hBk bkq9_4
          have hBk := hBn
          clear hBn
          try go_simp
          refine hK.out _ _ ?_ (fun hHeld => ?_)
          · (try dsimp only); exact hBk
          clear hK K
          (try simp only [Act.put, List.setIfInBounds_toArray, List.set_cons_zero, List.set_cons_succ])
          refine take_d (i := 4) (v := ?vq9_5) rfl (by rfl) (by kernel_rfl) (by kernel_rfl) (by kernel_rfl) (fun _ _ _ h => h) (Or.inl ⟨by rfl, ?hq9_5⟩) (by assumption) ?rq9_5
          case hq9_5 => (intro wS hSw; (try dsimp only at hSw); go_simp; try (with_reducible rfl))
          (try simp only [Act.put, List.setIfInBounds_toArray, List.set_cons_zero, List.set_cons_succ])
          refine take_d (i := 5) (v := ?vq9_6) rfl (by rfl) (by kernel_rfl) (by kernel_rfl) (by kernel_rfl) (fun _ _ _ h => h) (Or.inl ⟨by rfl, ?hq9_6⟩) (by assumption) ?rq9_6
          case hq9_6 => (intro wS hSw; (try dsimp only at hSw); have hcq0 := cn hSw JA0; have hcq1 := cn hSw JA1; go_simp; try (with_reducible rfl))
          (try simp only [Act.put, List.setIfInBounds_toArray, List.set_cons_zero, List.set_cons_succ])
          refine take_d (i := 6) (v := ?vq9_7) rfl (by rfl) (by kernel_rfl) (by kernel_rfl) (by kernel_rfl) (fun _ _ _ h => h) (Or.inl ⟨by rfl, ?hq9_7⟩) (by assumption) ?rq9_7
          case hq9_7 => (intro wS hSw; (try dsimp only at hSw); go_simp; try (with_reducible rfl))
          (try simp only [Act.put, List.setIfInBounds_toArray, List.set_cons_zero, List.set_cons_succ])
          refine take_d (i := 7) (v := ?vq9_8) rfl (by rfl) (by kernel_rfl) (by kernel_rfl) (by kernel_rfl) (fun _ _ _ h => h) (Or.inl ⟨by rfl, ?hq9_8⟩) (by assumption) ?rq9_8
          case hq9_8 => (intro wS hSw; (try dsimp only at hSw); have hcq0 := cn hSw JA0; have hcq1 := cn hSw JA1; go_simp; try (with_reducible rfl))
          (try simp only [Act.put, List.setIfInBounds_toArray, List.set_cons_zero, List.set_cons_succ])
          refine take_d (i := 8) (v := ?vq9_9) rfl (by rfl) (by kernel_rfl) (by kernel_rfl) (by kernel_rfl) (fun _ _ _ h => h) (Or.inl ⟨by rfl, ?hq9_9⟩) (by assumption) ?rq9_9
          case hq9_9 => (intro wS hSw; (try dsimp only at hSw); go_simp; try (with_reducible rfl))
          (try simp only [Act.put, List.setIfInBounds_toArray, List.set_cons_zero, List.set_cons_succ])
          refine take_d (i := 9) (v := ?vq9_10) rfl (by rfl) (by kernel_rfl) (by kernel_rfl) (by kernel_rfl) (fun _ _ _ h => h) (Or.inl ⟨by rfl, ?hq9_10⟩) (by assumption) ?rq9_10
          case hq9_10 => (intro wS hSw; (try dsimp only at hSw); have hcq0 := cn hSw JA0; have hcq1 := cn hSw JA1; go_simp; try (with_reducible rfl))
          (try simp only [Act.put, List.setIfInBounds_toArray, List.set_cons_zero, List.set_cons_succ])
          refine take_d (i := 10) (v := ?vq9_11) rfl (by rfl) (by kernel_rfl) (by kernel_rfl) (by kernel_rfl) (fun _ _ _ h => h) (Or.inl ⟨by rfl, ?hq9_11⟩) (by assumption) ?rq9_11
          case hq9_11 => (intro wS hSw; (try dsimp only at hSw); go_simp; try (with_reducible rfl))
          (try simp only [Act.put, List.setIfInBounds_toArray, List.set_cons_zero, List.set_cons_succ])
          refine wpAnyH_ready (rs := [11]) (by kernel_rfl) (by simp) ?_
          refine AllReadyH.cons rfl (fun K hK => ?_) AllReadyH.nil
          go_simp
          go_at_call 46
          refine (HT.out _).mono ?_
          rintro e wq9_12 ⟨rfl, bkq9_12⟩
          have hBn := below_next hBk bkq9_12
          clear hBk bkq9_12
          have hBk := hBn
          clear hBn
          try go_simp
          refine hK.out _ _ ?_ (fun hHeld => ?_)
          · (try dsimp only); exact hBk
          clear hK K
          (try simp only [Act.put, List.setIfInBounds_toArray, List.set_cons_zero, List.set_cons_succ])
          refine take_d (i := 12) (v := ?vq9_13) rfl (by rfl) (by kernel_rfl) (by kernel_rfl) (by kernel_rfl) (fun _ _ _ h => h) (Or.inl ⟨by rfl, ?hq9_13⟩) (by assumption) ?rq9_13
          case hq9_13 => (intro wS hSw; (try dsimp only at hSw); go_simp; try (with_reducible rfl))
          (try simp only [Act.put, List.setIfInBounds_toArray, List.set_cons_zero, List.set_cons_succ])
          refine take_d (i := 13) (v := ?vq9_14) rfl (by rfl) (by kernel_rfl) (by kernel_rfl) (by kernel_rfl) (fun _ _ _ h => h) (Or.inl ⟨by rfl, ?hq9_14⟩) (by assumption) ?rq9_14
          case hq9_14 => (intro wS hSw; (try dsimp only at hSw); go_simp; try (with_reducible rfl))
          (try simp only [Act.put, List.setIfInBounds_toArray, List.set_cons_zero, List.set_cons_succ])
          refine take_d (i := 14) (v := ?vq9_15) rfl (by rfl) (by kernel_rfl) (by kernel_rfl) (by kernel_rfl) (fun _ _ _ h => h) (Or.inl ⟨by rfl, ?hq9_15⟩) (by assumption) ?rq9_15
          case hq9_15 => (intro wS hSw; (try dsimp only at hSw); have hcq0 := cn hSw JA0; have hcq1 := cn hSw JA1; go_simp; try (with_reducible rfl))
          (try simp only [Act.put, List.setIfInBounds_toArray, List.set_cons_zero, List.set_cons_succ])
          refine take_d (i := 17) (v := ?vq9_16) rfl (by rfl) (by kernel_rfl) (by kernel_rfl) (by kernel_rfl) (fun _ _ _ h => h) (Or.inl ⟨by rfl, ?hq9_16⟩) (by assumption) ?rq9_16
          case hq9_16 => (intro wS hSw; (try dsimp only at hSw); go_simp; try (with_reducible rfl))
          (try simp only [Act.put, List.setIfInBounds_toArray, List.set_cons_zero, List.set_cons_succ])
          refine take_d (i := 18) (v := ?vq9_17) rfl (by rfl) (by kernel_rfl) (by kernel_rfl) (by kernel_rfl) (fun _ _ _ h => h) (Or.inl ⟨by rfl, ?hq9_17⟩) (by assumption) ?rq9_17
          case hq9_17 => (intro wS hSw; (try dsimp only at hSw); have hcq0 := cn hSw JA0; have hcq1 := cn hSw JA1; go_simp; try (with_reducible rfl))
          (try simp only [Act.put, List.setIfInBounds_toArray, List.set_cons_zero, List.set_cons_succ])
          refine take_d (i := 19) (v := ?vq9_18) rfl (by rfl) (by kernel_rfl) (by kernel_rfl) (by kernel_rfl) (fun _ _ _ h => h) (Or.inl ⟨by rfl, ?hq9_18⟩) (by assumption) ?rq9_18
          case hq9_18 => (intro wS hSw; (try dsimp only at hSw); go_simp; try (with_reducible rfl))
          (try simp only [Act.put, List.setIfInBounds_toArray, List.set_cons_zero, List.set_cons_succ])
          refine wpAnyH_ready (rs := [15]) (by kernel_rfl) (by simp) ?_
          refine AllReadyH.cons rfl (fun K hK => ?_) AllReadyH.nil
          go_simp
          go_at_call 49
          refine (FR.out _).mono ?_
          rintro e wq9_19 ⟨rfl, bkq9_19⟩
          have hBn := below_next hBk bkq9_19
          clear hBk bkq9_19
          have hBk := hBn
          clear hBn
          try go_simp
          refine hK.out _ _ ?_ (fun hHeld => ?_)
          · (try dsimp only); exact hBk
          clear hK K
          (try simp only [Act.put, List.setIfInBounds_toArray, List.set_cons_zero, List.set_cons_succ])
          refine take_d (i := 16) (v := ?vq9_20) rfl (by rfl) (by kernel_rfl) (by kernel_rfl) (by kernel_rfl) (fun _ _ _ h => h) (Or.inl ⟨by rfl, ?hq9_20⟩) (by assumption) ?rq9_20
          case hq9_20 => (intro wS hSw; (try dsimp only at hSw); go_simp; try (with_reducible rfl))
          (try simp only [Act.put, List.setIfInBounds_toArray, List.set_cons_zero, List.set_cons_succ])
          refine take_d (i := 20) (v := ?vq9_21) rfl (by rfl) (by kernel_rfl) (by kernel_rfl) (by kernel_rfl) (fun _ _ _ h => h) (Or.inl ⟨by rfl, ?hq9_21⟩) (by assumption) ?rq9_21
          case hq9_21 => (intro wS hSw; (try dsimp only at hSw); go_simp; try (with_reducible rfl))
          (try simp only [Act.put, List.setIfInBounds_toArray, List.set_cons_zero, List.set_cons_succ])
          refine take_d (i := 21) (v := ?vq9_22) rfl (by rfl) (by kernel_rfl) (by kernel_rfl) (by kernel_rfl) (fun _ _ _ h => h) (Or.inl ⟨by rfl, ?hq9_22⟩) (by assumption) ?rq9_22
          case hq9_22 => (intro wS hSw; (try dsimp only at hSw); go_simp; try (with_reducible rfl))
          (try simp only [Act.put, List.setIfInBounds_toArray, List.set_cons_zero, List.set_cons_succ])
          refine take_d (i := 22) (v := ?vq9_23) rfl (by rfl) (by kernel_rfl) (by kernel_rfl) (by kernel_rfl) (fun _ _ _ h => h) (Or.inl ⟨by rfl, ?hq9_23⟩) (by assumption) ?rq9_23
          case hq9_23 => (intro wS hSw; (try dsimp only at hSw); go_simp; try (with_reducible rfl))
          (try simp only [Act.put, List.setIfInBounds_toArray, List.set_cons_zero, List.set_cons_succ])
          refine wpAnyH_done (by kernel_rfl) ?_ _
          clear JA0 JA1 JAl JB0 JB1 JBl JC0 JC1 JCl JJ0 JJ1 JJl JM0 JM1 JMl lB
          generalize wq9_19 = w15 at hBk ⊢
          replace JA := JA.below hBk
          replace JB := JB.below hBk
          replace JC := JC.below hBk
          replace JJ := JJ.below hBk
          replace JM := JM.below hBk
          replace B := below_next B hBk
          clear hBk
          go_wp2
          go_ret
          exact ⟨rfl, B⟩
        · skip
          obtain rfl : cb = false := hNo.out (by trivial)
          have JA0 := JA.2.1
          have JA1 := JA.2.2
          have JAl := JA.1
          have JB0 := JB.2.1
          have JB1 := JB.2.2
          have JBl := JB.1
          have JC0 := JC.2.1
          have JC1 := JC.2.2
          have JCl := JC.1
          have JJ0 := JJ.2.1
          have JJ1 := JJ.2.2
          have JJl := JJ.1
          have JM0 := JM.2.1
          have JM1 := JM.2.2
          have JMl := JM.1
          have lB := B.size
          go_wp2_with fail
          refine (Icb.out _).mono ?_
          rintro e w15 ⟨rfl, z⟩
          clear JA0 JA1 JAl JB0 JB1 JBl JC0 JC1 JCl JJ0 JJ1 JJl JM0 JM1 JMl lB
          replace JA := JA.below z
          replace JB := JB.below z
          replace JC := JC.below z
          replace JJ := JJ.below z
          replace JM := JM.below z
          replace B := below_next B z
          clear z
          have hce := hce.out
          have JA0 := JA.2.1
          have JA1 := JA.2.2
          have JAl := JA.1
          have JB0 := JB.2.1
          have JB1 := JB.2.2
          have JBl := JB.1
          have JC0 := JC.2.1
          have JC1 := JC.2.2
          have JCl := JC.1
          have JJ0 := JJ.2.1
          have JJ1 := JJ.2.2
          have JJl := JJ.1
          have JM0 := JM.2.1
          have JM1 := JM.2.2
          have JMl := JM.1
          have lB := B.size
          go_wp2_with fail
          refine wp_region_held_drew (S := (fun w' : World => Below w15.heap.size w15 w')) (by kernel_rfl) ?_ (fun hHeld => ?_)
          · (try dsimp only); first | (with_reducible exact below_dr _) | (with_reducible exact Below.refl _ _) | exact below_dr _
          have hBk := below_dr w15
          refine take_d (i := 0) (v := ?vq10_1) rfl (by rfl) (by kernel_rfl) (by kernel_rfl) (by kernel_rfl) (fun _ _ _ h => h) (Or.inl ⟨by rfl, ?hq10_1⟩) (by assumption) ?rq10_1
          case hq10_1 => (intro wS hSw; (try dsimp only at hSw); have hcq0 := cn hSw JA0; have hcq1 := cn hSw JA1; go_simp; try (with_reducible rfl))
          (try simp only [Act.put, List.setIfInBounds_toArray, List.set_cons_zero, List.set_cons_succ])
          refine take_d (i := 1) (v := ?vq10_2) rfl (by rfl) (by kernel_rfl) (by kernel_rfl) (by kernel_rfl) (fun _ _ _ h => h) (Or.inl ⟨by rfl, ?hq10_2⟩) (by assumption) ?rq10_2
          case hq10_2 => (intro wS hSw; (try dsimp only at hSw); go_simp; try (with_reducible rfl))
          (try simp only [Act.put, List.setIfInBounds_toArray, List.set_cons_zero, List.set_cons_succ])
          refine take_d (i := 2) (v := ?vq10_3) rfl (by rfl) (by kernel_rfl) (by kernel_rfl) (by kernel_rfl) (fun _ _ _ h => h) (Or.inl ⟨by rfl, ?hq10_3⟩) (by assumption) ?rq10_3
          case hq10_3 => (intro wS hSw; (try dsimp only at hSw); have hcq0 := cn hSw JA0; have hcq1 := cn hSw JA1; go_simp; try (with_reducible rfl))
          (try simp only [Act.put, List.setIfInBounds_toArray, List.set_cons_zero, List.set_cons_succ])
          refine wpAnyH_ready (rs := [3]) (by kernel_rfl) (by simp) ?_
          refine AllReadyH.cons rfl (fun K hK => ?_) AllReadyH.nil
          go_simp
          go_at_call 46
          refine (HL.out _).mono ?_
          rintro e wq10_4 ⟨rfl, bkq10_4⟩
          have hBn := below_next hBk bkq10_4
          clear hBk bkq10_4
          have hBk := hBn
          clear hBn
          try go_simp
          refine hK.out _ _ ?_ (fun hHeld => ?_)
          · (try dsimp only); exact hBk
          clear hK K
          (try simp only [Act.put, List.setIfInBounds_toArray, List.set_cons_zero, List.set_cons_succ])
          refine take_d (i := 4) (v := ?vq10_5) rfl (by rfl) (by kernel_rfl) (by kernel_rfl) (by kernel_rfl) (fun _ _ _ h => h) (Or.inl ⟨by rfl, ?hq10_5⟩) (by assumption) ?rq10_5
          case hq10_5 => (intro wS hSw; (try dsimp only at hSw); go_simp; try (with_reducible rfl))
          (try simp only [Act.put, List.setIfInBounds_toArray, List.set_cons_zero, List.set_cons_succ])
          refine take_d (i := 5) (v := ?vq10_6) rfl (by rfl) (by kernel_rfl) (by kernel_rfl) (by kernel_rfl) (fun _ _ _ h => h) (Or.inl ⟨by rfl, ?hq10_6⟩) (by assumption) ?rq10_6
          case hq10_6 => (intro wS hSw; (try dsimp only at hSw); have hcq0 := cn hSw JA0; have hcq1 := cn hSw JA1; go_simp; try (with_reducible rfl))
          (try simp only [Act.put, List.setIfInBounds_toArray, List.set_cons_zero, List.set_cons_succ])
          refine take_d (i := 6) (v := ?vq10_7) rfl (by rfl) (by kernel_rfl) (by kernel_rfl) (by kernel_rfl) (fun _ _ _ h => h) (Or.inl ⟨by rfl, ?hq10_7⟩) (by assumption) ?rq10_7
          case hq10_7 => (intro wS hSw; (try dsimp only at hSw); go_simp; try (with_reducible rfl))
          (try simp only [Act.put, List.setIfInBounds_toArray, List.set_cons_zero, List.set_cons_succ])
          refine take_d (i := 7) (v := ?vq10_8) rfl (by rfl) (by kernel_rfl) (by kernel_rfl) (by kernel_rfl) (fun _ _ _ h => h) (Or.inl ⟨by rfl, ?hq10_8⟩) (by assumption) ?rq10_8
          case hq10_8 => (intro wS hSw; (try dsimp only at hSw); have hcq0 := cn hSw JA0; have hcq1 := cn hSw JA1; go_simp; try (with_reducible rfl))
          (try simp only [Act.put, List.setIfInBounds_toArray, List.set_cons_zero, List.set_cons_succ])
          refine take_d (i := 8) (v := ?vq10_9) rfl (by rfl) (by kernel_rfl) (by kernel_rfl) (by kernel_rfl) (fun _ _ _ h => h) (Or.inl ⟨by rfl, ?hq10_9⟩) (by assumption) ?rq10_9
          case hq10_9 => (intro wS hSw; (try dsimp only at hSw); go_simp; try (with_reducible rfl))
          (try simp only [Act.put, List.setIfInBounds_toArray, List.set_cons_zero, List.set_cons_succ])
          refine take_d (i := 9) (v := ?vq10_10) rfl (by rfl) (by kernel_rfl) (by kernel_rfl) (by kernel_rfl) (fun _ _ _ h => h) (Or.inl ⟨by rfl, ?hq10_10⟩) (by assumption) ?rq10_10
          case hq10_10 => (intro wS hSw; (try dsimp only at hSw); have hcq0 := cn hSw JA0; have hcq1 := cn hSw JA1; go_simp; try (with_reducible rfl))
          (try simp only [Act.put, List.setIfInBounds_toArray, List.set_cons_zero, List.set_cons_succ])
          refine take_d (i := 10) (v := ?vq10_11) rfl (by rfl) (by kernel_rfl) (by kernel_rfl) (by kernel_rfl) (fun _ _ _ h => h) (Or.inl ⟨by rfl, ?hq10_11⟩) (by assumption) ?rq10_11
          case hq10_11 => (intro wS hSw; (try dsimp only at hSw); go_simp; try (with_reducible rfl))
          (try simp only [Act.put, List.setIfInBounds_toArray, List.set_cons_zero, List.set_cons_succ])
          refine wpAnyH_ready (rs := [11]) (by kernel_rfl) (by simp) ?_
          refine AllReadyH.cons rfl (fun K hK => ?_) AllReadyH.nil
          go_simp
          go_at_call 46
          refine (HT.out _).mono ?_
          rintro e wq10_12 ⟨rfl, bkq10_12⟩
          have hBn := below_next hBk bkq10_12
          clear hBk bkq10_12
          have hBk := hBn
          clear hBn
          try go_simp
          refine hK.out _ _ ?_ (fun hHeld => ?_)
          · (try dsimp only); exact hBk
          clear hK K
          (try simp only [Act.put, List.setIfInBounds_toArray, List.set_cons_zero, List.set_cons_succ])
          refine take_d (i := 12) (v := ?vq10_13) rfl (by rfl) (by kernel_rfl) (by kernel_rfl) (by kernel_rfl) (fun _ _ _ h => h) (Or.inl ⟨by rfl, ?hq10_13⟩) (by assumption) ?rq10_13
          case hq10_13 => (intro wS hSw; (try dsimp only at hSw); go_simp; try (with_reducible rfl))
          (try simp only [Act.put, List.setIfInBounds_toArray, List.set_cons_zero, List.set_cons_succ])
          refine take_d (i := 13) (v := ?vq10_14) rfl (by rfl) (by kernel_rfl) (by kernel_rfl) (by kernel_rfl) (fun _ _ _ h => h) (Or.inl ⟨by rfl, ?hq10_14⟩) (by assumption) ?rq10_14
          case hq10_14 => (intro wS hSw; (try dsimp only at hSw); go_simp; try (with_reducible rfl))
          (try simp only [Act.put, List.setIfInBounds_toArray, List.set_cons_zero, List.set_cons_succ])
          refine take_d (i := 14) (v := ?vq10_15) rfl (by rfl) (by kernel_rfl) (by kernel_rfl) (by kernel_rfl) (fun _ _ _ h => h) (Or.inl ⟨by rfl, ?hq10_15⟩) (by assumption) ?rq10_15
          case hq10_15 => (intro wS hSw; (try dsimp only at hSw); have hcq0 := cn hSw JA0; have hcq1 := cn hSw JA1; go_simp; try (with_reducible rfl))
          (try simp only [Act.put, List.setIfInBounds_toArray, List.set_cons_zero, List.set_cons_succ])
          refine take_d (i := 17) (v := ?vq10_16) rfl (by rfl) (by kernel_rfl) (by kernel_rfl) (by kernel_rfl) (fun _ _ _ h => h) (Or.inl ⟨by rfl, ?hq10_16⟩) (by assumption) ?rq10_16
          case hq10_16 => (intro wS hSw; (try dsimp only at hSw); go_simp; try (with_reducible rfl))
          (try simp only [Act.put, List.setIfInBounds_toArray, List.set_cons_zero, List.set_cons_succ])
          refine take_d (i := 18) (v := ?vq10_17) rfl (by rfl) (by kernel_rfl) (by kernel_rfl) (by kernel_rfl) (fun _ _ _ h => h) (Or.inl ⟨by rfl, ?hq10_17⟩) (by assumption) ?rq10_17
          case hq10_17 => (intro wS hSw; (try dsimp only at hSw); have hcq0 := cn hSw JA0; have hcq1 := cn hSw JA1; go_simp; try (with_reducible rfl))
          (try simp only [Act.put, List.setIfInBounds_toArray, List.set_cons_zero, List.set_cons_succ])
          refine take_d (i := 19) (v := ?vq10_18) rfl (by rfl) (by kernel_rfl) (by kernel_rfl) (by kernel_rfl) (fun _ _ _ h => h) (Or.inl ⟨by rfl, ?hq10_18⟩) (by assumption) ?rq10_18
          case hq10_18 => (intro wS hSw; (try dsimp only at hSw); go_simp; try (with_reducible rfl))
          (try simp only [Act.put, List.setIfInBounds_toArray, List.set_cons_zero, List.set_cons_succ])
          refine wpAnyH_ready (rs := [15]) (by kernel_rfl) (by simp) ?_
          refine AllReadyH.cons rfl (fun K hK => ?_) AllReadyH.nil
          go_simp
          go_at_call 49
          refine (FR.out _).mono ?_
          rintro e wq10_19 ⟨rfl, bkq10_19⟩
          have hBn := below_next hBk bkq10_19
          clear hBk bkq10_19
          have hBk := hBn
          clear hBn
          try go_simp
          refine hK.out _ _ ?_ (fun hHeld => ?_)
          · (try dsimp only); exact hBk
          clear hK K
          (try simp only [Act.put, List.setIfInBounds_toArray, List.set_cons_zero, List.set_cons_succ])
          refine take_d (i := 16) (v := ?vq10_20) rfl (by rfl) (by kernel_rfl) (by kernel_rfl) (by kernel_rfl) (fun _ _ _ h => h) (Or.inl ⟨by rfl, ?hq10_20⟩) (by assumption) ?rq10_20
          case hq10_20 => (intro wS hSw; (try dsimp only at hSw); go_simp; try (with_reducible rfl))
          (try simp only [Act.put, List.setIfInBounds_toArray, List.set_cons_zero, List.set_cons_succ])
          refine take_d (i := 20) (v := ?vq10_21) rfl (by rfl) (by kernel_rfl) (by kernel_rfl) (by kernel_rfl) (fun _ _ _ h => h) (Or.inl ⟨by rfl, ?hq10_21⟩) (by assumption) ?rq10_21
          case hq10_21 => (intro wS hSw; (try dsimp only at hSw); go_simp; try (with_reducible rfl))
          (try simp only [Act.put, List.setIfInBounds_toArray, List.set_cons_zero, List.set_cons_succ])
          refine take_d (i := 21) (v := ?vq10_22) rfl (by rfl) (by kernel_rfl) (by kernel_rfl) (by kernel_rfl) (fun _ _ _ h => h) (Or.inl ⟨by rfl, ?hq10_22⟩) (by assumption) ?rq10_22
          case hq10_22 => (intro wS hSw; (try dsimp only at hSw); go_simp; try (with_reducible rfl))
          (try simp only [Act.put, List.setIfInBounds_toArray, List.set_cons_zero, List.set_cons_succ])
          refine take_d (i := 22) (v := ?vq10_23) rfl (by rfl) (by kernel_rfl) (by kernel_rfl) (by kernel_rfl) (fun _ _ _ h => h) (Or.inl ⟨by rfl, ?hq10_23⟩) (by assumption) ?rq10_23
          case hq10_23 => (intro wS hSw; (try dsimp only at hSw); go_simp; try (with_reducible rfl))
          (try simp only [Act.put, List.setIfInBounds_toArray, List.set_cons_zero, List.set_cons_succ])
          refine wpAnyH_done (by kernel_rfl) ?_ _
          clear JA0 JA1 JAl JB0 JB1 JBl JC0 JC1 JCl JJ0 JJ1 JJl JM0 JM1 JMl lB
          generalize wq10_19 = w16 at hBk ⊢
          replace JA := JA.below hBk
          replace JB := JB.below hBk
          replace JC := JC.below hBk
          replace JJ := JJ.below hBk
          replace JM := JM.below hBk
          replace B := below_next B hBk
          clear hBk
          go_wp2
          go_ret
          exact ⟨rfl, B⟩
    · skip
      have JA0 := JA.2.1
      have JA1 := JA.2.2
      have JAl := JA.1
      have JB0 := JB.2.1
      have JB1 := JB.2.2
      have JBl := JB.1
      have JC0 := JC.2.1
      have JC1 := JC.2.2
      have JCl := JC.1
      have JJ0 := JJ.2.1
      have JJ1 := JJ.2.2
      have JJl := JJ.1
      have lB := B.size
      go_wp2_with fail
      refine (Iaj.out _).mono ?_
      rintro e w8 ⟨rfl, z⟩
      clear JA0 JA1 JAl JB0 JB1 JBl JC0 JC1 JCl JJ0 JJ1 JJl lB
      replace JA := JA.below z
      replace JB := JB.below z
      replace JC := JC.below z
      replace JJ := JJ.below z
      replace B := below_next B z
      clear z
      have JA0 := JA.2.1
      have JA1 := JA.2.2
      have JAl := JA.1
      have JB0 := JB.2.1
      have JB1 := JB.2.2
      have JBl := JB.1
      have JC0 := JC.2.1
      have JC1 := JC.2.2
      have JCl := JC.1
      have JJ0 := JJ.2.1
      have JJ1 := JJ.2.2
      have JJl := JJ.1
      have lB := B.size
      go_wp2_with fail
      refine (Ibj.out _).mono ?_
      rintro e w9 ⟨rfl, z⟩
      clear JA0 JA1 JAl JB0 JB1 JBl JC0 JC1 JCl JJ0 JJ1 JJl lB
      replace JA := JA.below z
      replace JB := JB.below z
      replace JC := JC.below z
      replace JJ := JJ.below z
      replace B := below_next B z
      clear z
      have JA0 := JA.2.1
      have JA1 := JA.2.2
      have JAl := JA.1
      have JB0 := JB.2.1
      have JB1 := JB.2.2
      have JBl := JB.1
      have JC0 := JC.2.1
      have JC1 := JC.2.2
      have JCl := JC.1
      have JJ0 := JJ.2.1
      have JJ1 := JJ.2.2
      have JJl := JJ.1
      have lB := B.size
      go_wp2_with fail
      refine (Iac.out _).mono ?_
      rintro e w10 ⟨rfl, z⟩
      clear JA0 JA1 JAl JB0 JB1 JBl JC0 JC1 JCl JJ0 JJ1 JJl lB
      replace JA := JA.below z
      replace JB := JB.below z
      replace JC := JC.below z
      replace JJ := JJ.below z
      replace B := below_next B z
      clear z
      have JA0 := JA.2.1
      have JA1 := JA.2.2
      have JAl := JA.1
      have JB0 := JB.2.1
      have JB1 := JB.2.2
      have JBl := JB.1
      have JC0 := JC.2.1
      have JC1 := JC.2.2
      have JCl := JC.1
      have JJ0 := JJ.2.1
      have JJ1 := JJ.2.2
      have JJl := JJ.1
      have lB := B.size
      go_wp2_with fail
      refine (Ibc.out _).mono ?_
      rintro e w11 ⟨rfl, z⟩
      clear JA0 JA1 JAl JB0 JB1 JBl JC0 JC1 JCl JJ0 JJ1 JJl lB
      replace JA := JA.below z
      replace JB := JB.below z
      replace JC := JC.below z
      replace JJ := JJ.below z
      replace B := below_next B z
      clear z
      obtain rfl : jcB = true := jc.out (by trivial) (by trivial)
      have JA0 := JA.2.1
      have JA1 := JA.2.2
      have JAl := JA.1
      have JB0 := JB.2.1
      have JB1 := JB.2.2
      have JBl := JB.1
      have JC0 := JC.2.1
      have JC1 := JC.2.2
      have JCl := JC.1
      have JJ0 := JJ.2.1
      have JJ1 := JJ.2.2
      have JJl := JJ.1
      have lB := B.size
      go_wp2_with fail
      refine (Ijc.out _).mono ?_
      rintro e w12 ⟨rfl, z⟩
      clear JA0 JA1 JAl JB0 JB1 JBl JC0 JC1 JCl JJ0 JJ1 JJl lB
      replace JA := JA.below z
      replace JB := JB.below z
      replace JC := JC.below z
      replace JJ := JJ.below z
      replace B := below_next B z
      clear z
      have JA0 := JA.2.1
      have JA1 := JA.2.2
      have JAl := JA.1
      have JB0 := JB.2.1
      have JB1 := JB.2.2
      have JBl := JB.1
      have JC0 := JC.2.1
      have JC1 := JC.2.2
      have JCl := JC.1
      have JJ0 := JJ.2.1
      have JJ1 := JJ.2.2
      have JJl := JJ.1
      have lB := B.size
      go_wp2_with fail
      refine (XM.out _).mono ?_
      rintro e w13 ⟨rfl, z⟩
      clear JA0 JA1 JAl JB0 JB1 JBl JC0 JC1 JCl JJ0 JJ1 JJl lB
      replace JA := JA.below z
      replace JB := JB.below z
      replace JC := JC.below z
      replace JJ := JJ.below z
      replace B := below_next B z
      clear z
      rcases (show mk = true ∨ mk = false by cases mk <;> simp) with rfl | rfl
      · skip
        obtain rfl : ma = true := mA.out (by trivial)
        obtain rfl : mb = true := mB.out (by trivial)
        clear mA mB
        have JA0 := JA.2.1
        have JA1 := JA.2.2
        have JAl := JA.1
        have JB0 := JB.2.1
        have JB1 := JB.2.2
        have JBl := JB.1
        have JC0 := JC.2.1
        have JC1 := JC.2.2
        have JCl := JC.1
        have JJ0 := JJ.2.1
        have JJ1 := JJ.2.2
        have JJl := JJ.1
        have lB := B.size
        go_wp2_with fail
        clear JA0 JA1 JAl JB0 JB1 JBl JC0 JC1 JCl JJ0 JJ1 JJl lB
        have JM : TC (w13.alloc (.cells #[.int .u64 (ub M0.1), .int .u64 (ub M0.2)] 24)) w13.heap.size M0 := TC.new rfl
        replace JA := JA.alloc (.cells #[.int .u64 (ub M0.1), .int .u64 (ub M0.2)] 24)
        replace JB := JB.alloc (.cells #[.int .u64 (ub M0.1), .int .u64 (ub M0.2)] 24)
        replace JC := JC.alloc (.cells #[.int .u64 (ub M0.1), .int .u64 (ub M0.2)] 24)
        replace JJ := JJ.alloc (.cells #[.int .u64 (ub M0.1), .int .u64 (ub M0.2)] 24)
        replace B := Below.alloc B B.size (.cells #[.int .u64 (ub M0.1), .int .u64 (ub M0.2)] 24)
        generalize w13.alloc (.cells #[.int .u64 (ub M0.1), .int .u64 (ub M0.2)] 24) = w14 at *
        generalize w13.heap.size = g2 at *
        have JA0 := JA.2.1
        have JA1 := JA.2.2
        have JAl := JA.1
        have JB0 := JB.2.1
        have JB1 := JB.2.2
        have JBl := JB.1
        have JC0 := JC.2.1
        have JC1 := JC.2.2
        have JCl := JC.1
        have JJ0 := JJ.2.1
        have JJ1 := JJ.2.2
        have JJl := JJ.1
        have JM0 := JM.2.1
        have JM1 := JM.2.2
        have JMl := JM.1
        have lB := B.size
        go_wp2_with fail
        refine (Ima.out _).mono ?_
        rintro e w15 ⟨rfl, z⟩
        clear JA0 JA1 JAl JB0 JB1 JBl JC0 JC1 JCl JJ0 JJ1 JJl JM0 JM1 JMl lB
        replace JA := JA.below z
        replace JB := JB.below z
        replace JC := JC.below z
        replace JJ := JJ.below z
        replace JM := JM.below z
        replace B := below_next B z
        clear z
        have JA0 := JA.2.1
        have JA1 := JA.2.2
        have JAl := JA.1
        have JB0 := JB.2.1
        have JB1 := JB.2.2
        have JBl := JB.1
        have JC0 := JC.2.1
        have JC1 := JC.2.2
        have JCl := JC.1
        have JJ0 := JJ.2.1
        have JJ1 := JJ.2.2
        have JJl := JJ.1
        have JM0 := JM.2.1
        have JM1 := JM.2.2
        have JMl := JM.1
        have lB := B.size
        go_wp2_with fail
        refine (Imb.out _).mono ?_
        rintro e w16 ⟨rfl, z⟩
        clear JA0 JA1 JAl JB0 JB1 JBl JC0 JC1 JCl JJ0 JJ1 JJl JM0 JM1 JMl lB
        replace JA := JA.below z
        replace JB := JB.below z
        replace JC := JC.below z
        replace JJ := JJ.below z
        replace JM := JM.below z
        replace B := below_next B z
        clear z
        have JA0 := JA.2.1
        have JA1 := JA.2.2
        have JAl := JA.1
        have JB0 := JB.2.1
        have JB1 := JB.2.2
        have JBl := JB.1
        have JC0 := JC.2.1
        have JC1 := JC.2.2
        have JCl := JC.1
        have JJ0 := JJ.2.1
        have JJ1 := JJ.2.2
        have JJl := JJ.1
        have JM0 := JM.2.1
        have JM1 := JM.2.2
        have JMl := JM.1
        have lB := B.size
        go_wp2_with fail
        refine (Ica.out _).mono ?_
        rintro e w17 ⟨rfl, z⟩
        clear JA0 JA1 JAl JB0 JB1 JBl JC0 JC1 JCl JJ0 JJ1 JJl JM0 JM1 JMl lB
        replace JA := JA.below z
        replace JB := JB.below z
        replace JC := JC.below z
        replace JJ := JJ.below z
        replace JM := JM.below z
        replace B := below_next B z
        clear z
        cases ca
        · skip
          have hce := hce.out
          have JA0 := JA.2.1
          have JA1 := JA.2.2
          have JAl := JA.1
          have JB0 := JB.2.1
          have JB1 := JB.2.2
          have JBl := JB.1
          have JC0 := JC.2.1
          have JC1 := JC.2.2
          have JCl := JC.1
          have JJ0 := JJ.2.1
          have JJ1 := JJ.2.2
          have JJl := JJ.1
          have JM0 := JM.2.1
          have JM1 := JM.2.2
          have JMl := JM.1
          have lB := B.size
          go_wp2_with fail
          refine wp_region_held_drew (S := (fun w' : World => Below w17.heap.size w17 w')) (by kernel_rfl) ?_ (fun hHeld => ?_)
          · (try dsimp only); first | (with_reducible exact below_dr _) | (with_reducible exact Below.refl _ _) | exact below_dr _
          have hBk := below_dr w17
          refine take_d (i := 0) (v := ?vq11_1) rfl (by rfl) (by kernel_rfl) (by kernel_rfl) (by kernel_rfl) (fun _ _ _ h => h) (Or.inl ⟨by rfl, ?hq11_1⟩) (by assumption) ?rq11_1
          case hq11_1 => (intro wS hSw; (try dsimp only at hSw); have hcq0 := cn hSw JA0; have hcq1 := cn hSw JA1; go_simp; try (with_reducible rfl))
          (try simp only [Act.put, List.setIfInBounds_toArray, List.set_cons_zero, List.set_cons_succ])
          refine take_d (i := 1) (v := ?vq11_2) rfl (by rfl) (by kernel_rfl) (by kernel_rfl) (by kernel_rfl) (fun _ _ _ h => h) (Or.inl ⟨by rfl, ?hq11_2⟩) (by assumption) ?rq11_2
          case hq11_2 => (intro wS hSw; (try dsimp only at hSw); go_simp; try (with_reducible rfl))
          (try simp only [Act.put, List.setIfInBounds_toArray, List.set_cons_zero, List.set_cons_succ])
          refine take_d (i := 2) (v := ?vq11_3) rfl (by rfl) (by kernel_rfl) (by kernel_rfl) (by kernel_rfl) (fun _ _ _ h => h) (Or.inl ⟨by rfl, ?hq11_3⟩) (by assumption) ?rq11_3
          case hq11_3 => (intro wS hSw; (try dsimp only at hSw); have hcq0 := cn hSw JA0; have hcq1 := cn hSw JA1; go_simp; try (with_reducible rfl))
          (try simp only [Act.put, List.setIfInBounds_toArray, List.set_cons_zero, List.set_cons_succ])
          refine wpAnyH_ready (rs := [3]) (by kernel_rfl) (by simp) ?_
          refine AllReadyH.cons rfl (fun K hK => ?_) AllReadyH.nil
          go_simp
          go_at_call 46
          refine (HL.out _).mono ?_
          rintro e wq11_4 ⟨rfl, bkq11_4⟩
          have hBn := below_next hBk bkq11_4
          clear hBk bkq11_4
          have hBk := hBn
          clear hBn
          try go_simp
          refine hK.out _ _ ?_ (fun hHeld => ?_)
          · (try dsimp only); exact hBk
          clear hK K
          (try simp only [Act.put, List.setIfInBounds_toArray, List.set_cons_zero, List.set_cons_succ])
          refine take_d (i := 4) (v := ?vq11_5) rfl (by rfl) (by kernel_rfl) (by kernel_rfl) (by kernel_rfl) (fun _ _ _ h => h) (Or.inl ⟨by rfl, ?hq11_5⟩) (by assumption) ?rq11_5
          case hq11_5 => (intro wS hSw; (try dsimp only at hSw); go_simp; try (with_reducible rfl))
          (try simp only [Act.put, List.setIfInBounds_toArray, List.set_cons_zero, List.set_cons_succ])
          refine take_d (i := 5) (v := ?vq11_6) rfl (by rfl) (by kernel_rfl) (by kernel_rfl) (by kernel_rfl) (fun _ _ _ h => h) (Or.inl ⟨by rfl, ?hq11_6⟩) (by assumption) ?rq11_6
          case hq11_6 => (intro wS hSw; (try dsimp only at hSw); have hcq0 := cn hSw JA0; have hcq1 := cn hSw JA1; go_simp; try (with_reducible rfl))
          (try simp only [Act.put, List.setIfInBounds_toArray, List.set_cons_zero, List.set_cons_succ])
          refine take_d (i := 6) (v := ?vq11_7) rfl (by rfl) (by kernel_rfl) (by kernel_rfl) (by kernel_rfl) (fun _ _ _ h => h) (Or.inl ⟨by rfl, ?hq11_7⟩) (by assumption) ?rq11_7
          case hq11_7 => (intro wS hSw; (try dsimp only at hSw); go_simp; try (with_reducible rfl))
          (try simp only [Act.put, List.setIfInBounds_toArray, List.set_cons_zero, List.set_cons_succ])
          refine take_d (i := 7) (v := ?vq11_8) rfl (by rfl) (by kernel_rfl) (by kernel_rfl) (by kernel_rfl) (fun _ _ _ h => h) (Or.inl ⟨by rfl, ?hq11_8⟩) (by assumption) ?rq11_8
          case hq11_8 => (intro wS hSw; (try dsimp only at hSw); have hcq0 := cn hSw JA0; have hcq1 := cn hSw JA1; go_simp; try (with_reducible rfl))
          (try simp only [Act.put, List.setIfInBounds_toArray, List.set_cons_zero, List.set_cons_succ])
          refine take_d (i := 8) (v := ?vq11_9) rfl (by rfl) (by kernel_rfl) (by kernel_rfl) (by kernel_rfl) (fun _ _ _ h => h) (Or.inl ⟨by rfl, ?hq11_9⟩) (by assumption) ?rq11_9
          case hq11_9 => (intro wS hSw; (try dsimp only at hSw); go_simp; try (with_reducible rfl))
          (try simp only [Act.put, List.setIfInBounds_toArray, List.set_cons_zero, List.set_cons_succ])
          refine take_d (i := 9) (v := ?vq11_10) rfl (by rfl) (by kernel_rfl) (by kernel_rfl) (by kernel_rfl) (fun _ _ _ h => h) (Or.inl ⟨by rfl, ?hq11_10⟩) (by assumption) ?rq11_10
          case hq11_10 => (intro wS hSw; (try dsimp only at hSw); have hcq0 := cn hSw JA0; have hcq1 := cn hSw JA1; go_simp; try (with_reducible rfl))
          (try simp only [Act.put, List.setIfInBounds_toArray, List.set_cons_zero, List.set_cons_succ])
          refine take_d (i := 10) (v := ?vq11_11) rfl (by rfl) (by kernel_rfl) (by kernel_rfl) (by kernel_rfl) (fun _ _ _ h => h) (Or.inl ⟨by rfl, ?hq11_11⟩) (by assumption) ?rq11_11
          case hq11_11 => (intro wS hSw; (try dsimp only at hSw); go_simp; try (with_reducible rfl))
          (try simp only [Act.put, List.setIfInBounds_toArray, List.set_cons_zero, List.set_cons_succ])
          refine wpAnyH_ready (rs := [11]) (by kernel_rfl) (by simp) ?_
          refine AllReadyH.cons rfl (fun K hK => ?_) AllReadyH.nil
          go_simp
          go_at_call 46
          refine (HT.out _).mono ?_
          rintro e wq11_12 ⟨rfl, bkq11_12⟩
          have hBn := below_next hBk bkq11_12
          clear hBk bkq11_12
          have hBk := hBn
          clear hBn
          try go_simp
          refine hK.out _ _ ?_ (fun hHeld => ?_)
          · (try dsimp only); exact hBk
          clear hK K
          (try simp only [Act.put, List.setIfInBounds_toArray, List.set_cons_zero, List.set_cons_succ])
          refine take_d (i := 12) (v := ?vq11_13) rfl (by rfl) (by kernel_rfl) (by kernel_rfl) (by kernel_rfl) (fun _ _ _ h => h) (Or.inl ⟨by rfl, ?hq11_13⟩) (by assumption) ?rq11_13
          case hq11_13 => (intro wS hSw; (try dsimp only at hSw); go_simp; try (with_reducible rfl))
          (try simp only [Act.put, List.setIfInBounds_toArray, List.set_cons_zero, List.set_cons_succ])
          refine take_d (i := 13) (v := ?vq11_14) rfl (by rfl) (by kernel_rfl) (by kernel_rfl) (by kernel_rfl) (fun _ _ _ h => h) (Or.inl ⟨by rfl, ?hq11_14⟩) (by assumption) ?rq11_14
          case hq11_14 => (intro wS hSw; (try dsimp only at hSw); go_simp; try (with_reducible rfl))
          (try simp only [Act.put, List.setIfInBounds_toArray, List.set_cons_zero, List.set_cons_succ])
          refine take_d (i := 14) (v := ?vq11_15) rfl (by rfl) (by kernel_rfl) (by kernel_rfl) (by kernel_rfl) (fun _ _ _ h => h) (Or.inl ⟨by rfl, ?hq11_15⟩) (by assumption) ?rq11_15
          case hq11_15 => (intro wS hSw; (try dsimp only at hSw); have hcq0 := cn hSw JA0; have hcq1 := cn hSw JA1; go_simp; try (with_reducible rfl))
          (try simp only [Act.put, List.setIfInBounds_toArray, List.set_cons_zero, List.set_cons_succ])
          refine take_d (i := 17) (v := ?vq11_16) rfl (by rfl) (by kernel_rfl) (by kernel_rfl) (by kernel_rfl) (fun _ _ _ h => h) (Or.inl ⟨by rfl, ?hq11_16⟩) (by assumption) ?rq11_16
          case hq11_16 => (intro wS hSw; (try dsimp only at hSw); go_simp; try (with_reducible rfl))
          (try simp only [Act.put, List.setIfInBounds_toArray, List.set_cons_zero, List.set_cons_succ])
          refine take_d (i := 18) (v := ?vq11_17) rfl (by rfl) (by kernel_rfl) (by kernel_rfl) (by kernel_rfl) (fun _ _ _ h => h) (Or.inl ⟨by rfl, ?hq11_17⟩) (by assumption) ?rq11_17
          case hq11_17 => (intro wS hSw; (try dsimp only at hSw); have hcq0 := cn hSw JA0; have hcq1 := cn hSw JA1; go_simp; try (with_reducible rfl))
          (try simp only [Act.put, List.setIfInBounds_toArray, List.set_cons_zero, List.set_cons_succ])
          refine take_d (i := 19) (v := ?vq11_18) rfl (by rfl) (by kernel_rfl) (by kernel_rfl) (by kernel_rfl) (fun _ _ _ h => h) (Or.inl ⟨by rfl, ?hq11_18⟩) (by assumption) ?rq11_18
          case hq11_18 => (intro wS hSw; (try dsimp only at hSw); go_simp; try (with_reducible rfl))
          (try simp only [Act.put, List.setIfInBounds_toArray, List.set_cons_zero, List.set_cons_succ])
          refine wpAnyH_ready (rs := [15]) (by kernel_rfl) (by simp) ?_
          refine AllReadyH.cons rfl (fun K hK => ?_) AllReadyH.nil
          go_simp
          go_at_call 49
          refine (FR.out _).mono ?_
          rintro e wq11_19 ⟨rfl, bkq11_19⟩
          have hBn := below_next hBk bkq11_19
          clear hBk bkq11_19
          have hBk := hBn
          clear hBn
          try go_simp
          refine hK.out _ _ ?_ (fun hHeld => ?_)
          · (try dsimp only); exact hBk
          clear hK K
          (try simp only [Act.put, List.setIfInBounds_toArray, List.set_cons_zero, List.set_cons_succ])
          refine take_d (i := 16) (v := ?vq11_20) rfl (by rfl) (by kernel_rfl) (by kernel_rfl) (by kernel_rfl) (fun _ _ _ h => h) (Or.inl ⟨by rfl, ?hq11_20⟩) (by assumption) ?rq11_20
          case hq11_20 => (intro wS hSw; (try dsimp only at hSw); go_simp; try (with_reducible rfl))
          (try simp only [Act.put, List.setIfInBounds_toArray, List.set_cons_zero, List.set_cons_succ])
          refine take_d (i := 20) (v := ?vq11_21) rfl (by rfl) (by kernel_rfl) (by kernel_rfl) (by kernel_rfl) (fun _ _ _ h => h) (Or.inl ⟨by rfl, ?hq11_21⟩) (by assumption) ?rq11_21
          case hq11_21 => (intro wS hSw; (try dsimp only at hSw); go_simp; try (with_reducible rfl))
          (try simp only [Act.put, List.setIfInBounds_toArray, List.set_cons_zero, List.set_cons_succ])
          refine take_d (i := 21) (v := ?vq11_22) rfl (by rfl) (by kernel_rfl) (by kernel_rfl) (by kernel_rfl) (fun _ _ _ h => h) (Or.inl ⟨by rfl, ?hq11_22⟩) (by assumption) ?rq11_22
          case hq11_22 => (intro wS hSw; (try dsimp only at hSw); go_simp; try (with_reducible rfl))
          (try simp only [Act.put, List.setIfInBounds_toArray, List.set_cons_zero, List.set_cons_succ])
          refine take_d (i := 22) (v := ?vq11_23) rfl (by rfl) (by kernel_rfl) (by kernel_rfl) (by kernel_rfl) (fun _ _ _ h => h) (Or.inl ⟨by rfl, ?hq11_23⟩) (by assumption) ?rq11_23
          case hq11_23 => (intro wS hSw; (try dsimp only at hSw); go_simp; try (with_reducible rfl))
          (try simp only [Act.put, List.setIfInBounds_toArray, List.set_cons_zero, List.set_cons_succ])
          refine wpAnyH_done (by kernel_rfl) ?_ _
          clear JA0 JA1 JAl JB0 JB1 JBl JC0 JC1 JCl JJ0 JJ1 JJl JM0 JM1 JMl lB
          generalize wq11_19 = w18 at hBk ⊢
          replace JA := JA.below hBk
          replace JB := JB.below hBk
          replace JC := JC.below hBk
          replace JJ := JJ.below hBk
          replace JM := JM.below hBk
          replace B := below_next B hBk
          clear hBk
          go_wp2
          go_ret
          exact ⟨rfl, B⟩
        · skip
          have JA0 := JA.2.1
          have JA1 := JA.2.2
          have JAl := JA.1
          have JB0 := JB.2.1
          have JB1 := JB.2.2
          have JBl := JB.1
          have JC0 := JC.2.1
          have JC1 := JC.2.2
          have JCl := JC.1
          have JJ0 := JJ.2.1
          have JJ1 := JJ.2.2
          have JJl := JJ.1
          have JM0 := JM.2.1
          have JM1 := JM.2.2
          have JMl := JM.1
          have lB := B.size
          go_wp2_with fail
          refine (Icb.out _).mono ?_
          rintro e w18 ⟨rfl, z⟩
          clear JA0 JA1 JAl JB0 JB1 JBl JC0 JC1 JCl JJ0 JJ1 JJl JM0 JM1 JMl lB
          replace JA := JA.below z
          replace JB := JB.below z
          replace JC := JC.below z
          replace JJ := JJ.below z
          replace JM := JM.below z
          replace B := below_next B z
          clear z
          cases cb
          · skip
            have hce := hce.out
            have JA0 := JA.2.1
            have JA1 := JA.2.2
            have JAl := JA.1
            have JB0 := JB.2.1
            have JB1 := JB.2.2
            have JBl := JB.1
            have JC0 := JC.2.1
            have JC1 := JC.2.2
            have JCl := JC.1
            have JJ0 := JJ.2.1
            have JJ1 := JJ.2.2
            have JJl := JJ.1
            have JM0 := JM.2.1
            have JM1 := JM.2.2
            have JMl := JM.1
            have lB := B.size
            go_wp2_with fail
            refine wp_region_held_drew (S := (fun w' : World => Below w18.heap.size w18 w')) (by kernel_rfl) ?_ (fun hHeld => ?_)
            · (try dsimp only); first | (with_reducible exact below_dr _) | (with_reducible exact Below.refl _ _) | exact below_dr _
            have hBk := below_dr w18
            refine take_d (i := 0) (v := ?vq12_1) rfl (by rfl) (by kernel_rfl) (by kernel_rfl) (by kernel_rfl) (fun _ _ _ h => h) (Or.inl ⟨by rfl, ?hq12_1⟩) (by assumption) ?rq12_1
            case hq12_1 => (intro wS hSw; (try dsimp only at hSw); have hcq0 := cn hSw JA0; have hcq1 := cn hSw JA1; go_simp; try (with_reducible rfl))
            (try simp only [Act.put, List.setIfInBounds_toArray, List.set_cons_zero, List.set_cons_succ])
            refine take_d (i := 1) (v := ?vq12_2) rfl (by rfl) (by kernel_rfl) (by kernel_rfl) (by kernel_rfl) (fun _ _ _ h => h) (Or.inl ⟨by rfl, ?hq12_2⟩) (by assumption) ?rq12_2
            case hq12_2 => (intro wS hSw; (try dsimp only at hSw); go_simp; try (with_reducible rfl))
            (try simp only [Act.put, List.setIfInBounds_toArray, List.set_cons_zero, List.set_cons_succ])
            refine take_d (i := 2) (v := ?vq12_3) rfl (by rfl) (by kernel_rfl) (by kernel_rfl) (by kernel_rfl) (fun _ _ _ h => h) (Or.inl ⟨by rfl, ?hq12_3⟩) (by assumption) ?rq12_3
            case hq12_3 => (intro wS hSw; (try dsimp only at hSw); have hcq0 := cn hSw JA0; have hcq1 := cn hSw JA1; go_simp; try (with_reducible rfl))
            (try simp only [Act.put, List.setIfInBounds_toArray, List.set_cons_zero, List.set_cons_succ])
            refine wpAnyH_ready (rs := [3]) (by kernel_rfl) (by simp) ?_
            refine AllReadyH.cons rfl (fun K hK => ?_) AllReadyH.nil
            go_simp
            go_at_call 46
            refine (HL.out _).mono ?_
            rintro e wq12_4 ⟨rfl, bkq12_4⟩
            have hBn := below_next hBk bkq12_4
            clear hBk bkq12_4
            have hBk := hBn
            clear hBn
            try go_simp
            refine hK.out _ _ ?_ (fun hHeld => ?_)
            · (try dsimp only); exact hBk
            clear hK K
            (try simp only [Act.put, List.setIfInBounds_toArray, List.set_cons_zero, List.set_cons_succ])
            refine take_d (i := 4) (v := ?vq12_5) rfl (by rfl) (by kernel_rfl) (by kernel_rfl) (by kernel_rfl) (fun _ _ _ h => h) (Or.inl ⟨by rfl, ?hq12_5⟩) (by assumption) ?rq12_5
            case hq12_5 => (intro wS hSw; (try dsimp only at hSw); go_simp; try (with_reducible rfl))
            (try simp only [Act.put, List.setIfInBounds_toArray, List.set_cons_zero, List.set_cons_succ])
            refine take_d (i := 5) (v := ?vq12_6) rfl (by rfl) (by kernel_rfl) (by kernel_rfl) (by kernel_rfl) (fun _ _ _ h => h) (Or.inl ⟨by rfl, ?hq12_6⟩) (by assumption) ?rq12_6
            case hq12_6 => (intro wS hSw; (try dsimp only at hSw); have hcq0 := cn hSw JA0; have hcq1 := cn hSw JA1; go_simp; try (with_reducible rfl))
            (try simp only [Act.put, List.setIfInBounds_toArray, List.set_cons_zero, List.set_cons_succ])
            refine take_d (i := 6) (v := ?vq12_7) rfl (by rfl) (by kernel_rfl) (by kernel_rfl) (by kernel_rfl) (fun _ _ _ h => h) (Or.inl ⟨by rfl, ?hq12_7⟩) (by assumption) ?rq12_7
            case hq12_7 => (intro wS hSw; (try dsimp only at hSw); go_simp; try (with_reducible rfl))
            (try simp only [Act.put, List.setIfInBounds_toArray, List.set_cons_zero, List.set_cons_succ])
            refine take_d (i := 7) (v := ?vq12_8) rfl (by rfl) (by kernel_rfl) (by kernel_rfl) (by kernel_rfl) (fun _ _ _ h => h) (Or.inl ⟨by rfl, ?hq12_8⟩) (by assumption) ?rq12_8
            case hq12_8 => (intro wS hSw; (try dsimp only at hSw); have hcq0 := cn hSw JA0; have hcq1 := cn hSw JA1; go_simp; try (with_reducible rfl))
            (try simp only [Act.put, List.setIfInBounds_toArray, List.set_cons_zero, List.set_cons_succ])
            refine take_d (i := 8) (v := ?vq12_9) rfl (by rfl) (by kernel_rfl) (by kernel_rfl) (by kernel_rfl) (fun _ _ _ h => h) (Or.inl ⟨by rfl, ?hq12_9⟩) (by assumption) ?rq12_9
            case hq12_9 => (intro wS hSw; (try dsimp only at hSw); go_simp; try (with_reducible rfl))
            (try simp only [Act.put, List.setIfInBounds_toArray, List.set_cons_zero, List.set_cons_succ])
            refine take_d (i := 9) (v := ?vq12_10) rfl (by rfl) (by kernel_rfl) (by kernel_rfl) (by kernel_rfl) (fun _ _ _ h => h) (Or.inl ⟨by rfl, ?hq12_10⟩) (by assumption) ?rq12_10
            case hq12_10 => (intro wS hSw; (try dsimp only at hSw); have hcq0 := cn hSw JA0; have hcq1 := cn hSw JA1; go_simp; try (with_reducible rfl))
            (try simp only [Act.put, List.setIfInBounds_toArray, List.set_cons_zero, List.set_cons_succ])
            refine take_d (i := 10) (v := ?vq12_11) rfl (by rfl) (by kernel_rfl) (by kernel_rfl) (by kernel_rfl) (fun _ _ _ h => h) (Or.inl ⟨by rfl, ?hq12_11⟩) (by assumption) ?rq12_11
            case hq12_11 => (intro wS hSw; (try dsimp only at hSw); go_simp; try (with_reducible rfl))
            (try simp only [Act.put, List.setIfInBounds_toArray, List.set_cons_zero, List.set_cons_succ])
            refine wpAnyH_ready (rs := [11]) (by kernel_rfl) (by simp) ?_
            refine AllReadyH.cons rfl (fun K hK => ?_) AllReadyH.nil
            go_simp
            go_at_call 46
            refine (HT.out _).mono ?_
            rintro e wq12_12 ⟨rfl, bkq12_12⟩
            have hBn := below_next hBk bkq12_12
            clear hBk bkq12_12
            have hBk := hBn
            clear hBn
            try go_simp
            refine hK.out _ _ ?_ (fun hHeld => ?_)
            · (try dsimp only); exact hBk
            clear hK K
            (try simp only [Act.put, List.setIfInBounds_toArray, List.set_cons_zero, List.set_cons_succ])
            refine take_d (i := 12) (v := ?vq12_13) rfl (by rfl) (by kernel_rfl) (by kernel_rfl) (by kernel_rfl) (fun _ _ _ h => h) (Or.inl ⟨by rfl, ?hq12_13⟩) (by assumption) ?rq12_13
            case hq12_13 => (intro wS hSw; (try dsimp only at hSw); go_simp; try (with_reducible rfl))
            (try simp only [Act.put, List.setIfInBounds_toArray, List.set_cons_zero, List.set_cons_succ])
            refine take_d (i := 13) (v := ?vq12_14) rfl (by rfl) (by kernel_rfl) (by kernel_rfl) (by kernel_rfl) (fun _ _ _ h => h) (Or.inl ⟨by rfl, ?hq12_14⟩) (by assumption) ?rq12_14
            case hq12_14 => (intro wS hSw; (try dsimp only at hSw); go_simp; try (with_reducible rfl))
            (try simp only [Act.put, List.setIfInBounds_toArray, List.set_cons_zero, List.set_cons_succ])
            refine take_d (i := 14) (v := ?vq12_15) rfl (by rfl) (by kernel_rfl) (by kernel_rfl) (by kernel_rfl) (fun _ _ _ h => h) (Or.inl ⟨by rfl, ?hq12_15⟩) (by assumption) ?rq12_15
            case hq12_15 => (intro wS hSw; (try dsimp only at hSw); have hcq0 := cn hSw JA0; have hcq1 := cn hSw JA1; go_simp; try (with_reducible rfl))
            (try simp only [Act.put, List.setIfInBounds_toArray, List.set_cons_zero, List.set_cons_succ])
            refine take_d (i := 17) (v := ?vq12_16) rfl (by rfl) (by kernel_rfl) (by kernel_rfl) (by kernel_rfl) (fun _ _ _ h => h) (Or.inl ⟨by rfl, ?hq12_16⟩) (by assumption) ?rq12_16
            case hq12_16 => (intro wS hSw; (try dsimp only at hSw); go_simp; try (with_reducible rfl))
            (try simp only [Act.put, List.setIfInBounds_toArray, List.set_cons_zero, List.set_cons_succ])
            refine take_d (i := 18) (v := ?vq12_17) rfl (by rfl) (by kernel_rfl) (by kernel_rfl) (by kernel_rfl) (fun _ _ _ h => h) (Or.inl ⟨by rfl, ?hq12_17⟩) (by assumption) ?rq12_17
            case hq12_17 => (intro wS hSw; (try dsimp only at hSw); have hcq0 := cn hSw JA0; have hcq1 := cn hSw JA1; go_simp; try (with_reducible rfl))
            (try simp only [Act.put, List.setIfInBounds_toArray, List.set_cons_zero, List.set_cons_succ])
            refine take_d (i := 19) (v := ?vq12_18) rfl (by rfl) (by kernel_rfl) (by kernel_rfl) (by kernel_rfl) (fun _ _ _ h => h) (Or.inl ⟨by rfl, ?hq12_18⟩) (by assumption) ?rq12_18
            case hq12_18 => (intro wS hSw; (try dsimp only at hSw); go_simp; try (with_reducible rfl))
            (try simp only [Act.put, List.setIfInBounds_toArray, List.set_cons_zero, List.set_cons_succ])
            refine wpAnyH_ready (rs := [15]) (by kernel_rfl) (by simp) ?_
            refine AllReadyH.cons rfl (fun K hK => ?_) AllReadyH.nil
            go_simp
            go_at_call 49
            refine (FR.out _).mono ?_
            rintro e wq12_19 ⟨rfl, bkq12_19⟩
            have hBn := below_next hBk bkq12_19
            clear hBk bkq12_19
            have hBk := hBn
            clear hBn
            try go_simp
            refine hK.out _ _ ?_ (fun hHeld => ?_)
            · (try dsimp only); exact hBk
            clear hK K
            (try simp only [Act.put, List.setIfInBounds_toArray, List.set_cons_zero, List.set_cons_succ])
            refine take_d (i := 16) (v := ?vq12_20) rfl (by rfl) (by kernel_rfl) (by kernel_rfl) (by kernel_rfl) (fun _ _ _ h => h) (Or.inl ⟨by rfl, ?hq12_20⟩) (by assumption) ?rq12_20
            case hq12_20 => (intro wS hSw; (try dsimp only at hSw); go_simp; try (with_reducible rfl))
            (try simp only [Act.put, List.setIfInBounds_toArray, List.set_cons_zero, List.set_cons_succ])
            refine take_d (i := 20) (v := ?vq12_21) rfl (by rfl) (by kernel_rfl) (by kernel_rfl) (by kernel_rfl) (fun _ _ _ h => h) (Or.inl ⟨by rfl, ?hq12_21⟩) (by assumption) ?rq12_21
            case hq12_21 => (intro wS hSw; (try dsimp only at hSw); go_simp; try (with_reducible rfl))
            (try simp only [Act.put, List.setIfInBounds_toArray, List.set_cons_zero, List.set_cons_succ])
            refine take_d (i := 21) (v := ?vq12_22) rfl (by rfl) (by kernel_rfl) (by kernel_rfl) (by kernel_rfl) (fun _ _ _ h => h) (Or.inl ⟨by rfl, ?hq12_22⟩) (by assumption) ?rq12_22
            case hq12_22 => (intro wS hSw; (try dsimp only at hSw); go_simp; try (with_reducible rfl))
            (try simp only [Act.put, List.setIfInBounds_toArray, List.set_cons_zero, List.set_cons_succ])
            refine take_d (i := 22) (v := ?vq12_23) rfl (by rfl) (by kernel_rfl) (by kernel_rfl) (by kernel_rfl) (fun _ _ _ h => h) (Or.inl ⟨by rfl, ?hq12_23⟩) (by assumption) ?rq12_23
            case hq12_23 => (intro wS hSw; (try dsimp only at hSw); go_simp; try (with_reducible rfl))
            (try simp only [Act.put, List.setIfInBounds_toArray, List.set_cons_zero, List.set_cons_succ])
            refine wpAnyH_done (by kernel_rfl) ?_ _
            clear JA0 JA1 JAl JB0 JB1 JBl JC0 JC1 JCl JJ0 JJ1 JJl JM0 JM1 JMl lB
            generalize wq12_19 = w19 at hBk ⊢
            replace JA := JA.below hBk
            replace JB := JB.below hBk
            replace JC := JC.below hBk
            replace JJ := JJ.below hBk
            replace JM := JM.below hBk
            replace B := below_next B hBk
            clear hBk
            go_wp2
            go_ret
            exact ⟨rfl, B⟩
          · skip
            obtain rfl : cm = true := (cM.out (by trivial) (by trivial)).2
            have JA0 := JA.2.1
            have JA1 := JA.2.2
            have JAl := JA.1
            have JB0 := JB.2.1
            have JB1 := JB.2.2
            have JBl := JB.1
            have JC0 := JC.2.1
            have JC1 := JC.2.2
            have JCl := JC.1
            have JJ0 := JJ.2.1
            have JJ1 := JJ.2.2
            have JJl := JJ.1
            have JM0 := JM.2.1
            have JM1 := JM.2.2
            have JMl := JM.1
            have lB := B.size
            go_wp2_with fail
            refine (Icm.out _).mono ?_
            rintro e w19 ⟨rfl, z⟩
            clear JA0 JA1 JAl JB0 JB1 JBl JC0 JC1 JCl JJ0 JJ1 JJl JM0 JM1 JMl lB
            replace JA := JA.below z
            replace JB := JB.below z
            replace JC := JC.below z
            replace JJ := JJ.below z
            replace JM := JM.below z
            replace B := below_next B z
            clear z
            have hce := hce.out
            have JA0 := JA.2.1
            have JA1 := JA.2.2
            have JAl := JA.1
            have JB0 := JB.2.1
            have JB1 := JB.2.2
            have JBl := JB.1
            have JC0 := JC.2.1
            have JC1 := JC.2.2
            have JCl := JC.1
            have JJ0 := JJ.2.1
            have JJ1 := JJ.2.2
            have JJl := JJ.1
            have JM0 := JM.2.1
            have JM1 := JM.2.2
            have JMl := JM.1
            have lB := B.size
            go_wp2_with fail
            refine wp_region_held_drew (S := (fun w' : World => Below w19.heap.size w19 w')) (by kernel_rfl) ?_ (fun hHeld => ?_)
            · (try dsimp only); first | (with_reducible exact below_dr _) | (with_reducible exact Below.refl _ _) | exact below_dr _
            have hBk := below_dr w19
            refine take_d (i := 0) (v := ?vq13_1) rfl (by rfl) (by kernel_rfl) (by kernel_rfl) (by kernel_rfl) (fun _ _ _ h => h) (Or.inl ⟨by rfl, ?hq13_1⟩) (by assumption) ?rq13_1
            case hq13_1 => (intro wS hSw; (try dsimp only at hSw); have hcq0 := cn hSw JA0; have hcq1 := cn hSw JA1; go_simp; try (with_reducible rfl))
            (try simp only [Act.put, List.setIfInBounds_toArray, List.set_cons_zero, List.set_cons_succ])
            refine take_d (i := 1) (v := ?vq13_2) rfl (by rfl) (by kernel_rfl) (by kernel_rfl) (by kernel_rfl) (fun _ _ _ h => h) (Or.inl ⟨by rfl, ?hq13_2⟩) (by assumption) ?rq13_2
            case hq13_2 => (intro wS hSw; (try dsimp only at hSw); go_simp; try (with_reducible rfl))
            (try simp only [Act.put, List.setIfInBounds_toArray, List.set_cons_zero, List.set_cons_succ])
            refine take_d (i := 2) (v := ?vq13_3) rfl (by rfl) (by kernel_rfl) (by kernel_rfl) (by kernel_rfl) (fun _ _ _ h => h) (Or.inl ⟨by rfl, ?hq13_3⟩) (by assumption) ?rq13_3
            case hq13_3 => (intro wS hSw; (try dsimp only at hSw); have hcq0 := cn hSw JA0; have hcq1 := cn hSw JA1; go_simp; try (with_reducible rfl))
            (try simp only [Act.put, List.setIfInBounds_toArray, List.set_cons_zero, List.set_cons_succ])
            refine wpAnyH_ready (rs := [3]) (by kernel_rfl) (by simp) ?_
            refine AllReadyH.cons rfl (fun K hK => ?_) AllReadyH.nil
            go_simp
            go_at_call 46
            refine (HL.out _).mono ?_
            rintro e wq13_4 ⟨rfl, bkq13_4⟩
            have hBn := below_next hBk bkq13_4
            clear hBk bkq13_4
            have hBk := hBn
            clear hBn
            try go_simp
            refine hK.out _ _ ?_ (fun hHeld => ?_)
            · (try dsimp only); exact hBk
            clear hK K
            (try simp only [Act.put, List.setIfInBounds_toArray, List.set_cons_zero, List.set_cons_succ])
            refine take_d (i := 4) (v := ?vq13_5) rfl (by rfl) (by kernel_rfl) (by kernel_rfl) (by kernel_rfl) (fun _ _ _ h => h) (Or.inl ⟨by rfl, ?hq13_5⟩) (by assumption) ?rq13_5
            case hq13_5 => (intro wS hSw; (try dsimp only at hSw); go_simp; try (with_reducible rfl))
            (try simp only [Act.put, List.setIfInBounds_toArray, List.set_cons_zero, List.set_cons_succ])
            refine take_d (i := 5) (v := ?vq13_6) rfl (by rfl) (by kernel_rfl) (by kernel_rfl) (by kernel_rfl) (fun _ _ _ h => h) (Or.inl ⟨by rfl, ?hq13_6⟩) (by assumption) ?rq13_6
            case hq13_6 => (intro wS hSw; (try dsimp only at hSw); have hcq0 := cn hSw JA0; have hcq1 := cn hSw JA1; go_simp; try (with_reducible rfl))
            (try simp only [Act.put, List.setIfInBounds_toArray, List.set_cons_zero, List.set_cons_succ])
            refine take_d (i := 6) (v := ?vq13_7) rfl (by rfl) (by kernel_rfl) (by kernel_rfl) (by kernel_rfl) (fun _ _ _ h => h) (Or.inl ⟨by rfl, ?hq13_7⟩) (by assumption) ?rq13_7
            case hq13_7 => (intro wS hSw; (try dsimp only at hSw); go_simp; try (with_reducible rfl))
            (try simp only [Act.put, List.setIfInBounds_toArray, List.set_cons_zero, List.set_cons_succ])
            refine take_d (i := 7) (v := ?vq13_8) rfl (by rfl) (by kernel_rfl) (by kernel_rfl) (by kernel_rfl) (fun _ _ _ h => h) (Or.inl ⟨by rfl, ?hq13_8⟩) (by assumption) ?rq13_8
            case hq13_8 => (intro wS hSw; (try dsimp only at hSw); have hcq0 := cn hSw JA0; have hcq1 := cn hSw JA1; go_simp; try (with_reducible rfl))
            (try simp only [Act.put, List.setIfInBounds_toArray, List.set_cons_zero, List.set_cons_succ])
            refine take_d (i := 8) (v := ?vq13_9) rfl (by rfl) (by kernel_rfl) (by kernel_rfl) (by kernel_rfl) (fun _ _ _ h => h) (Or.inl ⟨by rfl, ?hq13_9⟩) (by assumption) ?rq13_9
            case hq13_9 => (intro wS hSw; (try dsimp only at hSw); go_simp; try (with_reducible rfl))
            (try simp only [Act.put, List.setIfInBounds_toArray, List.set_cons_zero, List.set_cons_succ])
            refine take_d (i := 9) (v := ?vq13_10) rfl (by rfl) (by kernel_rfl) (by kernel_rfl) (by kernel_rfl) (fun _ _ _ h => h) (Or.inl ⟨by rfl, ?hq13_10⟩) (by assumption) ?rq13_10
            case hq13_10 => (intro wS hSw; (try dsimp only at hSw); have hcq0 := cn hSw JA0; have hcq1 := cn hSw JA1; go_simp; try (with_reducible rfl))
            (try simp only [Act.put, List.setIfInBounds_toArray, List.set_cons_zero, List.set_cons_succ])
            refine take_d (i := 10) (v := ?vq13_11) rfl (by rfl) (by kernel_rfl) (by kernel_rfl) (by kernel_rfl) (fun _ _ _ h => h) (Or.inl ⟨by rfl, ?hq13_11⟩) (by assumption) ?rq13_11
            case hq13_11 => (intro wS hSw; (try dsimp only at hSw); go_simp; try (with_reducible rfl))
            (try simp only [Act.put, List.setIfInBounds_toArray, List.set_cons_zero, List.set_cons_succ])
            refine wpAnyH_ready (rs := [11]) (by kernel_rfl) (by simp) ?_
            refine AllReadyH.cons rfl (fun K hK => ?_) AllReadyH.nil
            go_simp
            go_at_call 46
            refine (HT.out _).mono ?_
            rintro e wq13_12 ⟨rfl, bkq13_12⟩
            have hBn := below_next hBk bkq13_12
            clear hBk bkq13_12
            have hBk := hBn
            clear hBn
            try go_simp
            refine hK.out _ _ ?_ (fun hHeld => ?_)
            · (try dsimp only); exact hBk
            clear hK K
            (try simp only [Act.put, List.setIfInBounds_toArray, List.set_cons_zero, List.set_cons_succ])
            refine take_d (i := 12) (v := ?vq13_13) rfl (by rfl) (by kernel_rfl) (by kernel_rfl) (by kernel_rfl) (fun _ _ _ h => h) (Or.inl ⟨by rfl, ?hq13_13⟩) (by assumption) ?rq13_13
            case hq13_13 => (intro wS hSw; (try dsimp only at hSw); go_simp; try (with_reducible rfl))
            (try simp only [Act.put, List.setIfInBounds_toArray, List.set_cons_zero, List.set_cons_succ])
            refine take_d (i := 13) (v := ?vq13_14) rfl (by rfl) (by kernel_rfl) (by kernel_rfl) (by kernel_rfl) (fun _ _ _ h => h) (Or.inl ⟨by rfl, ?hq13_14⟩) (by assumption) ?rq13_14
            case hq13_14 => (intro wS hSw; (try dsimp only at hSw); go_simp; try (with_reducible rfl))
            (try simp only [Act.put, List.setIfInBounds_toArray, List.set_cons_zero, List.set_cons_succ])
            refine take_d (i := 14) (v := ?vq13_15) rfl (by rfl) (by kernel_rfl) (by kernel_rfl) (by kernel_rfl) (fun _ _ _ h => h) (Or.inl ⟨by rfl, ?hq13_15⟩) (by assumption) ?rq13_15
            case hq13_15 => (intro wS hSw; (try dsimp only at hSw); have hcq0 := cn hSw JA0; have hcq1 := cn hSw JA1; go_simp; try (with_reducible rfl))
            (try simp only [Act.put, List.setIfInBounds_toArray, List.set_cons_zero, List.set_cons_succ])
            refine take_d (i := 17) (v := ?vq13_16) rfl (by rfl) (by kernel_rfl) (by kernel_rfl) (by kernel_rfl) (fun _ _ _ h => h) (Or.inl ⟨by rfl, ?hq13_16⟩) (by assumption) ?rq13_16
            case hq13_16 => (intro wS hSw; (try dsimp only at hSw); go_simp; try (with_reducible rfl))
            (try simp only [Act.put, List.setIfInBounds_toArray, List.set_cons_zero, List.set_cons_succ])
            refine take_d (i := 18) (v := ?vq13_17) rfl (by rfl) (by kernel_rfl) (by kernel_rfl) (by kernel_rfl) (fun _ _ _ h => h) (Or.inl ⟨by rfl, ?hq13_17⟩) (by assumption) ?rq13_17
            case hq13_17 => (intro wS hSw; (try dsimp only at hSw); have hcq0 := cn hSw JA0; have hcq1 := cn hSw JA1; go_simp; try (with_reducible rfl))
            (try simp only [Act.put, List.setIfInBounds_toArray, List.set_cons_zero, List.set_cons_succ])
            refine take_d (i := 19) (v := ?vq13_18) rfl (by rfl) (by kernel_rfl) (by kernel_rfl) (by kernel_rfl) (fun _ _ _ h => h) (Or.inl ⟨by rfl, ?hq13_18⟩) (by assumption) ?rq13_18
            case hq13_18 => (intro wS hSw; (try dsimp only at hSw); go_simp; try (with_reducible rfl))
            (try simp only [Act.put, List.setIfInBounds_toArray, List.set_cons_zero, List.set_cons_succ])
            refine wpAnyH_ready (rs := [15]) (by kernel_rfl) (by simp) ?_
            refine AllReadyH.cons rfl (fun K hK => ?_) AllReadyH.nil
            go_simp
            go_at_call 49
            refine (FR.out _).mono ?_
            rintro e wq13_19 ⟨rfl, bkq13_19⟩
            have hBn := below_next hBk bkq13_19
            clear hBk bkq13_19
            have hBk := hBn
            clear hBn
            try go_simp
            refine hK.out _ _ ?_ (fun hHeld => ?_)
            · (try dsimp only); exact hBk
            clear hK K
            (try simp only [Act.put, List.setIfInBounds_toArray, List.set_cons_zero, List.set_cons_succ])
            refine take_d (i := 16) (v := ?vq13_20) rfl (by rfl) (by kernel_rfl) (by kernel_rfl) (by kernel_rfl) (fun _ _ _ h => h) (Or.inl ⟨by rfl, ?hq13_20⟩) (by assumption) ?rq13_20
            case hq13_20 => (intro wS hSw; (try dsimp only at hSw); go_simp; try (with_reducible rfl))
            (try simp only [Act.put, List.setIfInBounds_toArray, List.set_cons_zero, List.set_cons_succ])
            refine take_d (i := 20) (v := ?vq13_21) rfl (by rfl) (by kernel_rfl) (by kernel_rfl) (by kernel_rfl) (fun _ _ _ h => h) (Or.inl ⟨by rfl, ?hq13_21⟩) (by assumption) ?rq13_21
            case hq13_21 => (intro wS hSw; (try dsimp only at hSw); go_simp; try (with_reducible rfl))
            (try simp only [Act.put, List.setIfInBounds_toArray, List.set_cons_zero, List.set_cons_succ])
            refine take_d (i := 21) (v := ?vq13_22) rfl (by rfl) (by kernel_rfl) (by kernel_rfl) (by kernel_rfl) (fun _ _ _ h => h) (Or.inl ⟨by rfl, ?hq13_22⟩) (by assumption) ?rq13_22
            case hq13_22 => (intro wS hSw; (try dsimp only at hSw); go_simp; try (with_reducible rfl))
            (try simp only [Act.put, List.setIfInBounds_toArray, List.set_cons_zero, List.set_cons_succ])
            refine take_d (i := 22) (v := ?vq13_23) rfl (by rfl) (by kernel_rfl) (by kernel_rfl) (by kernel_rfl) (fun _ _ _ h => h) (Or.inl ⟨by rfl, ?hq13_23⟩) (by assumption) ?rq13_23
            case hq13_23 => (intro wS hSw; (try dsimp only at hSw); go_simp; try (with_reducible rfl))
            (try simp only [Act.put, List.setIfInBounds_toArray, List.set_cons_zero, List.set_cons_succ])
            refine wpAnyH_done (by kernel_rfl) ?_ _
            clear JA0 JA1 JAl JB0 JB1 JBl JC0 JC1 JCl JJ0 JJ1 JJl JM0 JM1 JMl lB
            generalize wq13_19 = w20 at hBk ⊢
            replace JA := JA.below hBk
            replace JB := JB.below hBk
            replace JC := JC.below hBk
            replace JJ := JJ.below hBk
            replace JM := JM.below hBk
            replace B := below_next B hBk
            clear hBk
            go_wp2
            go_ret
            exact ⟨rfl, B⟩
      · skip
        clear mA mB
        have hNo : ca = true → cb = false := fun h => by
          cases hh : cb
          · rfl
          · exact absurd (cM.out h hh).1 (by decide)
        replace hNo := hid hNo
        clear cM
        have JA0 := JA.2.1
        have JA1 := JA.2.2
        have JAl := JA.1
        have JB0 := JB.2.1
        have JB1 := JB.2.2
        have JBl := JB.1
        have JC0 := JC.2.1
        have JC1 := JC.2.2
        have JCl := JC.1
        have JJ0 := JJ.2.1
        have JJ1 := JJ.2.2
        have JJl := JJ.1
        have lB := B.size
        go_wp2_with fail
        clear JA0 JA1 JAl JB0 JB1 JBl JC0 JC1 JCl JJ0 JJ1 JJl lB
        have JM : TC (w13.alloc (.cells #[.int .u64 (ub t0.1), .int .u64 (ub t0.2)] 24)) w13.heap.size t0 := TC.new rfl
        replace JA := JA.alloc (.cells #[.int .u64 (ub t0.1), .int .u64 (ub t0.2)] 24)
        replace JB := JB.alloc (.cells #[.int .u64 (ub t0.1), .int .u64 (ub t0.2)] 24)
        replace JC := JC.alloc (.cells #[.int .u64 (ub t0.1), .int .u64 (ub t0.2)] 24)
        replace JJ := JJ.alloc (.cells #[.int .u64 (ub t0.1), .int .u64 (ub t0.2)] 24)
        replace B := Below.alloc B B.size (.cells #[.int .u64 (ub t0.1), .int .u64 (ub t0.2)] 24)
        generalize w13.alloc (.cells #[.int .u64 (ub t0.1), .int .u64 (ub t0.2)] 24) = w14 at *
        generalize w13.heap.size = g2 at *
        have JA0 := JA.2.1
        have JA1 := JA.2.2
        have JAl := JA.1
        have JB0 := JB.2.1
        have JB1 := JB.2.2
        have JBl := JB.1
        have JC0 := JC.2.1
        have JC1 := JC.2.2
        have JCl := JC.1
        have JJ0 := JJ.2.1
        have JJ1 := JJ.2.2
        have JJl := JJ.1
        have JM0 := JM.2.1
        have JM1 := JM.2.2
        have JMl := JM.1
        have lB := B.size
        go_wp2_with fail
        refine (Ica.out _).mono ?_
        rintro e w15 ⟨rfl, z⟩
        clear JA0 JA1 JAl JB0 JB1 JBl JC0 JC1 JCl JJ0 JJ1 JJl JM0 JM1 JMl lB
        replace JA := JA.below z
        replace JB := JB.below z
        replace JC := JC.below z
        replace JJ := JJ.below z
        replace JM := JM.below z
        replace B := below_next B z
        clear z
        cases ca
        · skip
          have hce := hce.out
          have JA0 := JA.2.1
          have JA1 := JA.2.2
          have JAl := JA.1
          have JB0 := JB.2.1
          have JB1 := JB.2.2
          have JBl := JB.1
          have JC0 := JC.2.1
          have JC1 := JC.2.2
          have JCl := JC.1
          have JJ0 := JJ.2.1
          have JJ1 := JJ.2.2
          have JJl := JJ.1
          have JM0 := JM.2.1
          have JM1 := JM.2.2
          have JMl := JM.1
          have lB := B.size
          go_wp2_with fail
          refine wp_region_held_drew (S := (fun w' : World => Below w15.heap.size w15 w')) (by kernel_rfl) ?_ (fun hHeld => ?_)
          · (try dsimp only); first | (with_reducible exact below_dr _) | (with_reducible exact Below.refl _ _) | exact below_dr _
          have hBk := below_dr w15
          refine take_d (i := 0) (v := ?vq14_1) rfl (by rfl) (by kernel_rfl) (by kernel_rfl) (by kernel_rfl) (fun _ _ _ h => h) (Or.inl ⟨by rfl, ?hq14_1⟩) (by assumption) ?rq14_1
          case hq14_1 => (intro wS hSw; (try dsimp only at hSw); have hcq0 := cn hSw JA0; have hcq1 := cn hSw JA1; go_simp; try (with_reducible rfl))
          (try simp only [Act.put, List.setIfInBounds_toArray, List.set_cons_zero, List.set_cons_succ])
          refine take_d (i := 1) (v := ?vq14_2) rfl (by rfl) (by kernel_rfl) (by kernel_rfl) (by kernel_rfl) (fun _ _ _ h => h) (Or.inl ⟨by rfl, ?hq14_2⟩) (by assumption) ?rq14_2
          case hq14_2 => (intro wS hSw; (try dsimp only at hSw); go_simp; try (with_reducible rfl))
          (try simp only [Act.put, List.setIfInBounds_toArray, List.set_cons_zero, List.set_cons_succ])
          refine take_d (i := 2) (v := ?vq14_3) rfl (by rfl) (by kernel_rfl) (by kernel_rfl) (by kernel_rfl) (fun _ _ _ h => h) (Or.inl ⟨by rfl, ?hq14_3⟩) (by assumption) ?rq14_3
          case hq14_3 => (intro wS hSw; (try dsimp only at hSw); have hcq0 := cn hSw JA0; have hcq1 := cn hSw JA1; go_simp; try (with_reducible rfl))
          (try simp only [Act.put, List.setIfInBounds_toArray, List.set_cons_zero, List.set_cons_succ])
          refine wpAnyH_ready (rs := [3]) (by kernel_rfl) (by simp) ?_
          refine AllReadyH.cons rfl (fun K hK => ?_) AllReadyH.nil
          go_simp
          go_at_call 46
          refine (HL.out _).mono ?_
          rintro e wq14_4 ⟨rfl, bkq14_4⟩
          have hBn := below_next hBk bkq14_4
          clear hBk bkq14_4
          have hBk := hBn
          clear hBn
          try go_simp
          refine hK.out _ _ ?_ (fun hHeld => ?_)
          · (try dsimp only); exact hBk
          clear hK K
          (try simp only [Act.put, List.setIfInBounds_toArray, List.set_cons_zero, List.set_cons_succ])
          refine take_d (i := 4) (v := ?vq14_5) rfl (by rfl) (by kernel_rfl) (by kernel_rfl) (by kernel_rfl) (fun _ _ _ h => h) (Or.inl ⟨by rfl, ?hq14_5⟩) (by assumption) ?rq14_5
          case hq14_5 => (intro wS hSw; (try dsimp only at hSw); go_simp; try (with_reducible rfl))
          (try simp only [Act.put, List.setIfInBounds_toArray, List.set_cons_zero, List.set_cons_succ])
          refine take_d (i := 5) (v := ?vq14_6) rfl (by rfl) (by kernel_rfl) (by kernel_rfl) (by kernel_rfl) (fun _ _ _ h => h) (Or.inl ⟨by rfl, ?hq14_6⟩) (by assumption) ?rq14_6
          case hq14_6 => (intro wS hSw; (try dsimp only at hSw); have hcq0 := cn hSw JA0; have hcq1 := cn hSw JA1; go_simp; try (with_reducible rfl))
          (try simp only [Act.put, List.setIfInBounds_toArray, List.set_cons_zero, List.set_cons_succ])
          refine take_d (i := 6) (v := ?vq14_7) rfl (by rfl) (by kernel_rfl) (by kernel_rfl) (by kernel_rfl) (fun _ _ _ h => h) (Or.inl ⟨by rfl, ?hq14_7⟩) (by assumption) ?rq14_7
          case hq14_7 => (intro wS hSw; (try dsimp only at hSw); go_simp; try (with_reducible rfl))
          (try simp only [Act.put, List.setIfInBounds_toArray, List.set_cons_zero, List.set_cons_succ])
          refine take_d (i := 7) (v := ?vq14_8) rfl (by rfl) (by kernel_rfl) (by kernel_rfl) (by kernel_rfl) (fun _ _ _ h => h) (Or.inl ⟨by rfl, ?hq14_8⟩) (by assumption) ?rq14_8
          case hq14_8 => (intro wS hSw; (try dsimp only at hSw); have hcq0 := cn hSw JA0; have hcq1 := cn hSw JA1; go_simp; try (with_reducible rfl))
          (try simp only [Act.put, List.setIfInBounds_toArray, List.set_cons_zero, List.set_cons_succ])
          refine take_d (i := 8) (v := ?vq14_9) rfl (by rfl) (by kernel_rfl) (by kernel_rfl) (by kernel_rfl) (fun _ _ _ h => h) (Or.inl ⟨by rfl, ?hq14_9⟩) (by assumption) ?rq14_9
          case hq14_9 => (intro wS hSw; (try dsimp only at hSw); go_simp; try (with_reducible rfl))
          (try simp only [Act.put, List.setIfInBounds_toArray, List.set_cons_zero, List.set_cons_succ])
          refine take_d (i := 9) (v := ?vq14_10) rfl (by rfl) (by kernel_rfl) (by kernel_rfl) (by kernel_rfl) (fun _ _ _ h => h) (Or.inl ⟨by rfl, ?hq14_10⟩) (by assumption) ?rq14_10
          case hq14_10 => (intro wS hSw; (try dsimp only at hSw); have hcq0 := cn hSw JA0; have hcq1 := cn hSw JA1; go_simp; try (with_reducible rfl))
          (try simp only [Act.put, List.setIfInBounds_toArray, List.set_cons_zero, List.set_cons_succ])
          refine take_d (i := 10) (v := ?vq14_11) rfl (by rfl) (by kernel_rfl) (by kernel_rfl) (by kernel_rfl) (fun _ _ _ h => h) (Or.inl ⟨by rfl, ?hq14_11⟩) (by assumption) ?rq14_11
          case hq14_11 => (intro wS hSw; (try dsimp only at hSw); go_simp; try (with_reducible rfl))
          (try simp only [Act.put, List.setIfInBounds_toArray, List.set_cons_zero, List.set_cons_succ])
          refine wpAnyH_ready (rs := [11]) (by kernel_rfl) (by simp) ?_
          refine AllReadyH.cons rfl (fun K hK => ?_) AllReadyH.nil
          go_simp
          go_at_call 46
          refine (HT.out _).mono ?_
          rintro e wq14_12 ⟨rfl, bkq14_12⟩
          have hBn := below_next hBk bkq14_12
          clear hBk bkq14_12
          have hBk := hBn
          clear hBn
          try go_simp
          refine hK.out _ _ ?_ (fun hHeld => ?_)
          · (try dsimp only); exact hBk
          clear hK K
          (try simp only [Act.put, List.setIfInBounds_toArray, List.set_cons_zero, List.set_cons_succ])
          refine take_d (i := 12) (v := ?vq14_13) rfl (by rfl) (by kernel_rfl) (by kernel_rfl) (by kernel_rfl) (fun _ _ _ h => h) (Or.inl ⟨by rfl, ?hq14_13⟩) (by assumption) ?rq14_13
          case hq14_13 => (intro wS hSw; (try dsimp only at hSw); go_simp; try (with_reducible rfl))
          (try simp only [Act.put, List.setIfInBounds_toArray, List.set_cons_zero, List.set_cons_succ])
          refine take_d (i := 13) (v := ?vq14_14) rfl (by rfl) (by kernel_rfl) (by kernel_rfl) (by kernel_rfl) (fun _ _ _ h => h) (Or.inl ⟨by rfl, ?hq14_14⟩) (by assumption) ?rq14_14
          case hq14_14 => (intro wS hSw; (try dsimp only at hSw); go_simp; try (with_reducible rfl))
          (try simp only [Act.put, List.setIfInBounds_toArray, List.set_cons_zero, List.set_cons_succ])
          refine take_d (i := 14) (v := ?vq14_15) rfl (by rfl) (by kernel_rfl) (by kernel_rfl) (by kernel_rfl) (fun _ _ _ h => h) (Or.inl ⟨by rfl, ?hq14_15⟩) (by assumption) ?rq14_15
          case hq14_15 => (intro wS hSw; (try dsimp only at hSw); have hcq0 := cn hSw JA0; have hcq1 := cn hSw JA1; go_simp; try (with_reducible rfl))
          (try simp only [Act.put, List.setIfInBounds_toArray, List.set_cons_zero, List.set_cons_succ])
          refine take_d (i := 17) (v := ?vq14_16) rfl (by rfl) (by kernel_rfl) (by kernel_rfl) (by kernel_rfl) (fun _ _ _ h => h) (Or.inl ⟨by rfl, ?hq14_16⟩) (by assumption) ?rq14_16
          case hq14_16 => (intro wS hSw; (try dsimp only at hSw); go_simp; try (with_reducible rfl))
          (try simp only [Act.put, List.setIfInBounds_toArray, List.set_cons_zero, List.set_cons_succ])
          refine take_d (i := 18) (v := ?vq14_17) rfl (by rfl) (by kernel_rfl) (by kernel_rfl) (by kernel_rfl) (fun _ _ _ h => h) (Or.inl ⟨by rfl, ?hq14_17⟩) (by assumption) ?rq14_17
          case hq14_17 => (intro wS hSw; (try dsimp only at hSw); have hcq0 := cn hSw JA0; have hcq1 := cn hSw JA1; go_simp; try (with_reducible rfl))
          (try simp only [Act.put, List.setIfInBounds_toArray, List.set_cons_zero, List.set_cons_succ])
          refine take_d (i := 19) (v := ?vq14_18) rfl (by rfl) (by kernel_rfl) (by kernel_rfl) (by kernel_rfl) (fun _ _ _ h => h) (Or.inl ⟨by rfl, ?hq14_18⟩) (by assumption) ?rq14_18
          case hq14_18 => (intro wS hSw; (try dsimp only at hSw); go_simp; try (with_reducible rfl))
          (try simp only [Act.put, List.setIfInBounds_toArray, List.set_cons_zero, List.set_cons_succ])
          refine wpAnyH_ready (rs := [15]) (by kernel_rfl) (by simp) ?_
          refine AllReadyH.cons rfl (fun K hK => ?_) AllReadyH.nil
          go_simp
          go_at_call 49
          refine (FR.out _).mono ?_
          rintro e wq14_19 ⟨rfl, bkq14_19⟩
          have hBn := below_next hBk bkq14_19
          clear hBk bkq14_19
          have hBk := hBn
          clear hBn
          try go_simp
          refine hK.out _ _ ?_ (fun hHeld => ?_)
          · (try dsimp only); exact hBk
          clear hK K
          (try simp only [Act.put, List.setIfInBounds_toArray, List.set_cons_zero, List.set_cons_succ])
          refine take_d (i := 16) (v := ?vq14_20) rfl (by rfl) (by kernel_rfl) (by kernel_rfl) (by kernel_rfl) (fun _ _ _ h => h) (Or.inl ⟨by rfl, ?hq14_20⟩) (by assumption) ?rq14_20
          case hq14_20 => (intro wS hSw; (try dsimp only at hSw); go_simp; try (with_reducible rfl))
          (try simp only [Act.put, List.setIfInBounds_toArray, List.set_cons_zero, List.set_cons_succ])
          refine take_d (i := 20) (v := ?vq14_21) rfl (by rfl) (by kernel_rfl) (by kernel_rfl) (by kernel_rfl) (fun _ _ _ h => h) (Or.inl ⟨by rfl, ?hq14_21⟩) (by assumption) ?rq14_21
          case hq14_21 => (intro wS hSw; (try dsimp only at hSw); go_simp; try (with_reducible rfl))
          (try simp only [Act.put, List.setIfInBounds_toArray, List.set_cons_zero, List.set_cons_succ])
          refine take_d (i := 21) (v := ?vq14_22) rfl (by rfl) (by kernel_rfl) (by kernel_rfl) (by kernel_rfl) (fun _ _ _ h => h) (Or.inl ⟨by rfl, ?hq14_22⟩) (by assumption) ?rq14_22
          case hq14_22 => (intro wS hSw; (try dsimp only at hSw); go_simp; try (with_reducible rfl))
          (try simp only [Act.put, List.setIfInBounds_toArray, List.set_cons_zero, List.set_cons_succ])
          refine take_d (i := 22) (v := ?vq14_23) rfl (by rfl) (by kernel_rfl) (by kernel_rfl) (by kernel_rfl) (fun _ _ _ h => h) (Or.inl ⟨by rfl, ?hq14_23⟩) (by assumption) ?rq14_23
          case hq14_23 => (intro wS hSw; (try dsimp only at hSw); go_simp; try (with_reducible rfl))
          (try simp only [Act.put, List.setIfInBounds_toArray, List.set_cons_zero, List.set_cons_succ])
          refine wpAnyH_done (by kernel_rfl) ?_ _
          clear JA0 JA1 JAl JB0 JB1 JBl JC0 JC1 JCl JJ0 JJ1 JJl JM0 JM1 JMl lB
          generalize wq14_19 = w16 at hBk ⊢
          replace JA := JA.below hBk
          replace JB := JB.below hBk
          replace JC := JC.below hBk
          replace JJ := JJ.below hBk
          replace JM := JM.below hBk
          replace B := below_next B hBk
          clear hBk
          go_wp2
          go_ret
          exact ⟨rfl, B⟩
        · skip
          obtain rfl : cb = false := hNo.out (by trivial)
          have JA0 := JA.2.1
          have JA1 := JA.2.2
          have JAl := JA.1
          have JB0 := JB.2.1
          have JB1 := JB.2.2
          have JBl := JB.1
          have JC0 := JC.2.1
          have JC1 := JC.2.2
          have JCl := JC.1
          have JJ0 := JJ.2.1
          have JJ1 := JJ.2.2
          have JJl := JJ.1
          have JM0 := JM.2.1
          have JM1 := JM.2.2
          have JMl := JM.1
          have lB := B.size
          go_wp2_with fail
          refine (Icb.out _).mono ?_
          rintro e w16 ⟨rfl, z⟩
          clear JA0 JA1 JAl JB0 JB1 JBl JC0 JC1 JCl JJ0 JJ1 JJl JM0 JM1 JMl lB
          replace JA := JA.below z
          replace JB := JB.below z
          replace JC := JC.below z
          replace JJ := JJ.below z
          replace JM := JM.below z
          replace B := below_next B z
          clear z
          have hce := hce.out
          have JA0 := JA.2.1
          have JA1 := JA.2.2
          have JAl := JA.1
          have JB0 := JB.2.1
          have JB1 := JB.2.2
          have JBl := JB.1
          have JC0 := JC.2.1
          have JC1 := JC.2.2
          have JCl := JC.1
          have JJ0 := JJ.2.1
          have JJ1 := JJ.2.2
          have JJl := JJ.1
          have JM0 := JM.2.1
          have JM1 := JM.2.2
          have JMl := JM.1
          have lB := B.size
          go_wp2_with fail
          refine wp_region_held_drew (S := (fun w' : World => Below w16.heap.size w16 w')) (by kernel_rfl) ?_ (fun hHeld => ?_)
          · (try dsimp only); first | (with_reducible exact below_dr _) | (with_reducible exact Below.refl _ _) | exact below_dr _
          have hBk := below_dr w16
          refine take_d (i := 0) (v := ?vq15_1) rfl (by rfl) (by kernel_rfl) (by kernel_rfl) (by kernel_rfl) (fun _ _ _ h => h) (Or.inl ⟨by rfl, ?hq15_1⟩) (by assumption) ?rq15_1
          case hq15_1 => (intro wS hSw; (try dsimp only at hSw); have hcq0 := cn hSw JA0; have hcq1 := cn hSw JA1; go_simp; try (with_reducible rfl))
          (try simp only [Act.put, List.setIfInBounds_toArray, List.set_cons_zero, List.set_cons_succ])
          refine take_d (i := 1) (v := ?vq15_2) rfl (by rfl) (by kernel_rfl) (by kernel_rfl) (by kernel_rfl) (fun _ _ _ h => h) (Or.inl ⟨by rfl, ?hq15_2⟩) (by assumption) ?rq15_2
          case hq15_2 => (intro wS hSw; (try dsimp only at hSw); go_simp; try (with_reducible rfl))
          (try simp only [Act.put, List.setIfInBounds_toArray, List.set_cons_zero, List.set_cons_succ])
          refine take_d (i := 2) (v := ?vq15_3) rfl (by rfl) (by kernel_rfl) (by kernel_rfl) (by kernel_rfl) (fun _ _ _ h => h) (Or.inl ⟨by rfl, ?hq15_3⟩) (by assumption) ?rq15_3
          case hq15_3 => (intro wS hSw; (try dsimp only at hSw); have hcq0 := cn hSw JA0; have hcq1 := cn hSw JA1; go_simp; try (with_reducible rfl))
          (try simp only [Act.put, List.setIfInBounds_toArray, List.set_cons_zero, List.set_cons_succ])
          refine wpAnyH_ready (rs := [3]) (by kernel_rfl) (by simp) ?_
          refine AllReadyH.cons rfl (fun K hK => ?_) AllReadyH.nil
          go_simp
          go_at_call 46
          refine (HL.out _).mono ?_
          rintro e wq15_4 ⟨rfl, bkq15_4⟩
          have hBn := below_next hBk bkq15_4
          clear hBk bkq15_4
          have hBk := hBn
          clear hBn
          try go_simp
          refine hK.out _ _ ?_ (fun hHeld => ?_)
          · (try dsimp only); exact hBk
          clear hK K
          (try simp only [Act.put, List.setIfInBounds_toArray, List.set_cons_zero, List.set_cons_succ])
          refine take_d (i := 4) (v := ?vq15_5) rfl (by rfl) (by kernel_rfl) (by kernel_rfl) (by kernel_rfl) (fun _ _ _ h => h) (Or.inl ⟨by rfl, ?hq15_5⟩) (by assumption) ?rq15_5
          case hq15_5 => (intro wS hSw; (try dsimp only at hSw); go_simp; try (with_reducible rfl))
          (try simp only [Act.put, List.setIfInBounds_toArray, List.set_cons_zero, List.set_cons_succ])
          refine take_d (i := 5) (v := ?vq15_6) rfl (by rfl) (by kernel_rfl) (by kernel_rfl) (by kernel_rfl) (fun _ _ _ h => h) (Or.inl ⟨by rfl, ?hq15_6⟩) (by assumption) ?rq15_6
          case hq15_6 => (intro wS hSw; (try dsimp only at hSw); have hcq0 := cn hSw JA0; have hcq1 := cn hSw JA1; go_simp; try (with_reducible rfl))
          (try simp only [Act.put, List.setIfInBounds_toArray, List.set_cons_zero, List.set_cons_succ])
          refine take_d (i := 6) (v := ?vq15_7) rfl (by rfl) (by kernel_rfl) (by kernel_rfl) (by kernel_rfl) (fun _ _ _ h => h) (Or.inl ⟨by rfl, ?hq15_7⟩) (by assumption) ?rq15_7
          case hq15_7 => (intro wS hSw; (try dsimp only at hSw); go_simp; try (with_reducible rfl))
          (try simp only [Act.put, List.setIfInBounds_toArray, List.set_cons_zero, List.set_cons_succ])
          refine take_d (i := 7) (v := ?vq15_8) rfl (by rfl) (by kernel_rfl) (by kernel_rfl) (by kernel_rfl) (fun _ _ _ h => h) (Or.inl ⟨by rfl, ?hq15_8⟩) (by assumption) ?rq15_8
          case hq15_8 => (intro wS hSw; (try dsimp only at hSw); have hcq0 := cn hSw JA0; have hcq1 := cn hSw JA1; go_simp; try (with_reducible rfl))
          (try simp only [Act.put, List.setIfInBounds_toArray, List.set_cons_zero, List.set_cons_succ])
          refine take_d (i := 8) (v := ?vq15_9) rfl (by rfl) (by kernel_rfl) (by kernel_rfl) (by kernel_rfl) (fun _ _ _ h => h) (Or.inl ⟨by rfl, ?hq15_9⟩) (by assumption) ?rq15_9
          case hq15_9 => (intro wS hSw; (try dsimp only at hSw); go_simp; try (with_reducible rfl))
          (try simp only [Act.put, List.setIfInBounds_toArray, List.set_cons_zero, List.set_cons_succ])
          refine take_d (i := 9) (v := ?vq15_10) rfl (by rfl) (by kernel_rfl) (by kernel_rfl) (by kernel_rfl) (fun _ _ _ h => h) (Or.inl ⟨by rfl, ?hq15_10⟩) (by assumption) ?rq15_10
          case hq15_10 => (intro wS hSw; (try dsimp only at hSw); have hcq0 := cn hSw JA0; have hcq1 := cn hSw JA1; go_simp; try (with_reducible rfl))
          (try simp only [Act.put, List.setIfInBounds_toArray, List.set_cons_zero, List.set_cons_succ])
          refine take_d (i := 10) (v := ?vq15_11) rfl (by rfl) (by kernel_rfl) (by kernel_rfl) (by kernel_rfl) (fun _ _ _ h => h) (Or.inl ⟨by rfl, ?hq15_11⟩) (by assumption) ?rq15_11
          case hq15_11 => (intro wS hSw; (try dsimp only at hSw); go_simp; try (with_reducible rfl))
          (try simp only [Act.put, List.setIfInBounds_toArray, List.set_cons_zero, List.set_cons_succ])
          refine wpAnyH_ready (rs := [11]) (by kernel_rfl) (by simp) ?_
          refine AllReadyH.cons rfl (fun K hK => ?_) AllReadyH.nil
          go_simp
          go_at_call 46
          refine (HT.out _).mono ?_
          rintro e wq15_12 ⟨rfl, bkq15_12⟩
          have hBn := below_next hBk bkq15_12
          clear hBk bkq15_12
          have hBk := hBn
          clear hBn
          try go_simp
          refine hK.out _ _ ?_ (fun hHeld => ?_)
          · (try dsimp only); exact hBk
          clear hK K
          (try simp only [Act.put, List.setIfInBounds_toArray, List.set_cons_zero, List.set_cons_succ])
          refine take_d (i := 12) (v := ?vq15_13) rfl (by rfl) (by kernel_rfl) (by kernel_rfl) (by kernel_rfl) (fun _ _ _ h => h) (Or.inl ⟨by rfl, ?hq15_13⟩) (by assumption) ?rq15_13
          case hq15_13 => (intro wS hSw; (try dsimp only at hSw); go_simp; try (with_reducible rfl))
          (try simp only [Act.put, List.setIfInBounds_toArray, List.set_cons_zero, List.set_cons_succ])
          refine take_d (i := 13) (v := ?vq15_14) rfl (by rfl) (by kernel_rfl) (by kernel_rfl) (by kernel_rfl) (fun _ _ _ h => h) (Or.inl ⟨by rfl, ?hq15_14⟩) (by assumption) ?rq15_14
          case hq15_14 => (intro wS hSw; (try dsimp only at hSw); go_simp; try (with_reducible rfl))
          (try simp only [Act.put, List.setIfInBounds_toArray, List.set_cons_zero, List.set_cons_succ])
          refine take_d (i := 14) (v := ?vq15_15) rfl (by rfl) (by kernel_rfl) (by kernel_rfl) (by kernel_rfl) (fun _ _ _ h => h) (Or.inl ⟨by rfl, ?hq15_15⟩) (by assumption) ?rq15_15
          case hq15_15 => (intro wS hSw; (try dsimp only at hSw); have hcq0 := cn hSw JA0; have hcq1 := cn hSw JA1; go_simp; try (with_reducible rfl))
          (try simp only [Act.put, List.setIfInBounds_toArray, List.set_cons_zero, List.set_cons_succ])
          refine take_d (i := 17) (v := ?vq15_16) rfl (by rfl) (by kernel_rfl) (by kernel_rfl) (by kernel_rfl) (fun _ _ _ h => h) (Or.inl ⟨by rfl, ?hq15_16⟩) (by assumption) ?rq15_16
          case hq15_16 => (intro wS hSw; (try dsimp only at hSw); go_simp; try (with_reducible rfl))
          (try simp only [Act.put, List.setIfInBounds_toArray, List.set_cons_zero, List.set_cons_succ])
          refine take_d (i := 18) (v := ?vq15_17) rfl (by rfl) (by kernel_rfl) (by kernel_rfl) (by kernel_rfl) (fun _ _ _ h => h) (Or.inl ⟨by rfl, ?hq15_17⟩) (by assumption) ?rq15_17
          case hq15_17 => (intro wS hSw; (try dsimp only at hSw); have hcq0 := cn hSw JA0; have hcq1 := cn hSw JA1; go_simp; try (with_reducible rfl))
          (try simp only [Act.put, List.setIfInBounds_toArray, List.set_cons_zero, List.set_cons_succ])
          refine take_d (i := 19) (v := ?vq15_18) rfl (by rfl) (by kernel_rfl) (by kernel_rfl) (by kernel_rfl) (fun _ _ _ h => h) (Or.inl ⟨by rfl, ?hq15_18⟩) (by assumption) ?rq15_18
          case hq15_18 => (intro wS hSw; (try dsimp only at hSw); go_simp; try (with_reducible rfl))
          (try simp only [Act.put, List.setIfInBounds_toArray, List.set_cons_zero, List.set_cons_succ])
          refine wpAnyH_ready (rs := [15]) (by kernel_rfl) (by simp) ?_
          refine AllReadyH.cons rfl (fun K hK => ?_) AllReadyH.nil
          go_simp
          go_at_call 49
          refine (FR.out _).mono ?_
          rintro e wq15_19 ⟨rfl, bkq15_19⟩
          have hBn := below_next hBk bkq15_19
          clear hBk bkq15_19
          have hBk := hBn
          clear hBn
          try go_simp
          refine hK.out _ _ ?_ (fun hHeld => ?_)
          · (try dsimp only); exact hBk
          clear hK K
          (try simp only [Act.put, List.setIfInBounds_toArray, List.set_cons_zero, List.set_cons_succ])
          refine take_d (i := 16) (v := ?vq15_20) rfl (by rfl) (by kernel_rfl) (by kernel_rfl) (by kernel_rfl) (fun _ _ _ h => h) (Or.inl ⟨by rfl, ?hq15_20⟩) (by assumption) ?rq15_20
          case hq15_20 => (intro wS hSw; (try dsimp only at hSw); go_simp; try (with_reducible rfl))
          (try simp only [Act.put, List.setIfInBounds_toArray, List.set_cons_zero, List.set_cons_succ])
          refine take_d (i := 20) (v := ?vq15_21) rfl (by rfl) (by kernel_rfl) (by kernel_rfl) (by kernel_rfl) (fun _ _ _ h => h) (Or.inl ⟨by rfl, ?hq15_21⟩) (by assumption) ?rq15_21
          case hq15_21 => (intro wS hSw; (try dsimp only at hSw); go_simp; try (with_reducible rfl))
          (try simp only [Act.put, List.setIfInBounds_toArray, List.set_cons_zero, List.set_cons_succ])
          refine take_d (i := 21) (v := ?vq15_22) rfl (by rfl) (by kernel_rfl) (by kernel_rfl) (by kernel_rfl) (fun _ _ _ h => h) (Or.inl ⟨by rfl, ?hq15_22⟩) (by assumption) ?rq15_22
          case hq15_22 => (intro wS hSw; (try dsimp only at hSw); go_simp; try (with_reducible rfl))
          (try simp only [Act.put, List.setIfInBounds_toArray, List.set_cons_zero, List.set_cons_succ])
          refine take_d (i := 22) (v := ?vq15_23) rfl (by rfl) (by kernel_rfl) (by kernel_rfl) (by kernel_rfl) (fun _ _ _ h => h) (Or.inl ⟨by rfl, ?hq15_23⟩) (by assumption) ?rq15_23
          case hq15_23 => (intro wS hSw; (try dsimp only at hSw); go_simp; try (with_reducible rfl))
          (try simp only [Act.put, List.setIfInBounds_toArray, List.set_cons_zero, List.set_cons_succ])
          refine wpAnyH_done (by kernel_rfl) ?_ _
          clear JA0 JA1 JAl JB0 JB1 JBl JC0 JC1 JCl JJ0 JJ1 JJl JM0 JM1 JMl lB
          generalize wq15_19 = w17 at hBk ⊢
          replace JA := JA.below hBk
          replace JB := JB.below hBk
          replace JC := JC.below hBk
          replace JJ := JJ.below hBk
          replace JM := JM.below hBk
          replace B := below_next B hBk
          clear hBk
          go_wp2
          go_ret
          exact ⟨rfl, B⟩
end Go.Proofs.Ytoanbjnhoggpjaa
