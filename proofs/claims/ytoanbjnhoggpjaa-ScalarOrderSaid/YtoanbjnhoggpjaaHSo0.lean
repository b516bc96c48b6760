/-
  ScalarOrder: three that may be.
-/
import Derived.Test.YtoanbjnhoggpjaaHSoP
import Derived.Test.YtoanbjnhoggpjaaHHrU
namespace Go.Proofs.Ytoanbjnhoggpjaa
set_option linter.unusedSimpArgs false
set_option linter.unusedVariables false
set_option maxRecDepth 100000
open Go.ChangeShapes Go.WideShapes Go.ChangeAt Go.RowKit

set_option maxHeartbeats 40000000 in
theorem ordx0 (op : Int) (d : Bool) (a b c : Sc) (x : B64) (ha : mayX a = true) (hb : mayX b = true) (hc : mayX c = true) (hac : inX a c = false) (w : World) : Calls Try.prog 8 #[sumV op d a b, sv c, .int .u64 (ub x)] w fun e w' => e = .returned (.bool true) ∧ Below w.heap.size w w' := by
  have X0 := fun W => awake_true W
  replace X0 := hid X0
  have O := ordX_of a b c x ha hb hc
  have XA : ∀ W, Calls Try.prog 29 #[sv a] W fun e w' => e = .returned (.bool true) ∧ Below W.heap.size W w' := fun W => ha ▸ cMay_any a W
  have XB : ∀ W, Calls Try.prog 29 #[sv b] W fun e w' => e = .returned (.bool true) ∧ Below W.heap.size W w' := fun W => hb ▸ cMay_any b W
  have XC : ∀ W, Calls Try.prog 29 #[sv c] W fun e w' => e = .returned (.bool true) ∧ Below W.heap.size W w' := fun W => hc ▸ cMay_any c W
  have XI : ∀ W, Calls Try.prog 30 #[sv a, sv a] W fun e w' => e = .returned (.bool true) ∧ Below W.heap.size W w' := fun W => O.aa ▸ cIn_any a a W
  have XL : ∀ W, Calls Try.prog 32 #[] W fun e w' => e = .returned (sv allX) ∧ Below W.heap.size W w' := fun W => cAll_any W
  have XN : ∀ W, Calls Try.prog 30 #[sv a, sv allX] W fun e w' => e = .returned (.bool true) ∧ Below W.heap.size W w' := fun W => O.al ▸ cIn_any a allX W
  have XP : ∀ W, Calls Try.prog 30 #[sv a, sv b] W fun e w' => e = .returned (.bool (inX a b)) ∧ Below W.heap.size W w' := fun W => cIn_any a b W
  have XQ : ∀ W, Calls Try.prog 30 #[sv b, sv a] W fun e w' => e = .returned (.bool (inX b a)) ∧ Below W.heap.size W w' := fun W => cIn_any b a W
  have XT : ∀ W, Calls Try.prog 30 #[sv a, sv c] W fun e w' => e = .returned (.bool (inX a c)) ∧ Below W.heap.size W w' := fun W => cIn_any a c W
  have XJ : ∀ W, Calls Try.prog 33 #[sv a, sv b] W fun e w' => e = .returned (.tuple #[sv (joinX a b), .int .i64 0]) ∧ Below W.heap.size W w' := fun W => by have := cJoinX_any a b W; rwa [show joinXE a b = 0 by unfold joinXE; rw [ha, hb]; rfl] at this
  have Iaj : ∀ W, Calls Try.prog 30 #[sv a, sv (joinX a b)] W fun e w' => e = .returned (.bool true) ∧ Below W.heap.size W w' := fun W => O.aj ▸ cIn_any a (joinX a b) W
  have Ibj : ∀ W, Calls Try.prog 30 #[sv b, sv (joinX a b)] W fun e w' => e = .returned (.bool true) ∧ Below W.heap.size W w' := fun W => O.bj ▸ cIn_any b (joinX a b) W
  have Ijc : ∀ W, Calls Try.prog 30 #[sv (joinX a b), sv c] W fun e w' => e = .returned (.bool (inX (joinX a b) c)) ∧ Below W.heap.size W w' := fun W => cIn_any (joinX a b) c W
  have XM : ∀ W, Calls Try.prog 34 #[sv a, sv b] W fun e w' => e = .returned (.tuple #[sv (optS (meetO a b)), .bool (meetO a b).isSome]) ∧ Below W.heap.size W w' := fun W => cMeet_any a b W
  have Hm : ∀ W, Calls Try.prog 31 #[sv (optS (meetO a b)), .int .u64 (ub x)] W fun e w' => e = .returned (.bool (hasX (optS (meetO a b)) x)) ∧ Below W.heap.size W w' := fun W => cHas_any _ x W
  have Ima : ∀ W, Calls Try.prog 30 #[sv (optS (meetO a b)), sv a] W fun e w' => e = .returned (.bool (inX (optS (meetO a b)) a)) ∧ Below W.heap.size W w' := fun W => cIn_any _ a W
  have Imb : ∀ W, Calls Try.prog 30 #[sv (optS (meetO a b)), sv b] W fun e w' => e = .returned (.bool (inX (optS (meetO a b)) b)) ∧ Below W.heap.size W w' := fun W => cIn_any _ b W
  have XR : ∀ W, Calls Try.prog 30 #[sv b, sv c] W fun e w' => e = .returned (.bool (inX b c)) ∧ Below W.heap.size W w' := fun W => cIn_any b c W
  have Ha : ∀ W, Calls Try.prog 31 #[sv a, .int .u64 (ub x)] W fun e w' => e = .returned (.bool (hasX a x)) ∧ Below W.heap.size W w' := fun W => cHas_any a x W
  have Hb : ∀ W, Calls Try.prog 31 #[sv b, .int .u64 (ub x)] W fun e w' => e = .returned (.bool (hasX b x)) ∧ Below W.heap.size W w' := fun W => cHas_any b x W
  have an_ := O.anti
  have tr := O.tr
  have hs := O.hs
  have jc := O.jc
  have mn := O.mn
  have mA := O.ma
  have mB := O.mb
  clear O ha hb hc
  rw [hac] at XT tr jc
  clear hac
  generalize joinX a b = J at *
  generalize inX J c = jcB at *
  generalize hasX (optS (meetO a b)) x = vm at *
  generalize inX (optS (meetO a b)) a = ma at *
  generalize inX (optS (meetO a b)) b = mb at *
  generalize (meetO a b).isSome = mk at *
  generalize optS (meetO a b) = M0 at *
  generalize allX = Y at *
  generalize inX a b = p at *
  generalize inX b a = q at *
  generalize inX b c = bc at *
  generalize hasX a x = an at *
  generalize hasX b x = bn at *
  have hne : p = true → q = true → ∀ W : World, (binOp .neq 28 (.agg #[.int .u64 (ub a.1.1), .int .u64 (ub a.1.2), .int .u64 (ub a.2.1), .int .u64 (ub a.2.2)]) (.agg #[.int .u64 (ub b.1.1), .int .u64 (ub b.1.2), .int .u64 (ub b.2.1), .int .u64 (ub b.2.2)])).run Try.prog W = .ok (.bool false) W := by intro h1 h2 W; rw [← an_ h1 h2]; go_simp
  clear an_
  unfold sv at XA XB XC XI XL XN XP XQ XT XJ Iaj Ibj Ijc XM Hm Ima Imb XR Ha Hb
  replace XA := hid XA
  replace XB := hid XB
  replace XC := hid XC
  replace XI := hid XI
  replace XL := hid XL
  replace XN := hid XN
  replace XP := hid XP
  replace XQ := hid XQ
  replace XT := hid XT
  replace XJ := hid XJ
  replace Iaj := hid Iaj
  replace Ibj := hid Ibj
  replace Ijc := hid Ijc
  replace XM := hid XM
  replace Hm := hid Hm
  replace Ima := hid Ima
  replace Imb := hid Imb
  replace XR := hid XR
  replace Ha := hid Ha
  replace Hb := hid Hb
  replace hne := hid hne
  replace tr := hid tr
  replace hs := hid hs
  replace jc := hid jc
  replace mn := hid mn
  replace mA := hid mA
  replace mB := hid mB
  unfold sumV sv
  go_enter Try.func8, Try.ntmps8
  go_wp2_with fail
  have JM : SmC ((w.alloc (.cells #[.int .i64 op, .bool d, .int .u64 (ub a.1.1), .int .u64 (ub a.1.2), .int .u64 (ub a.2.1), .int .u64 (ub a.2.2), .int .u64 (ub b.1.1), .int .u64 (ub b.1.2), .int .u64 (ub b.2.1), .int .u64 (ub b.2.2)] 63)).alloc (.cells #[.int .u64 (ub c.1.1), .int .u64 (ub c.1.2), .int .u64 (ub c.2.1), .int .u64 (ub c.2.2)] 28)) (w.heap.size) op d a b := ((SmC.new rfl).alloc _)
  have JC : SC ((w.alloc (.cells #[.int .i64 op, .bool d, .int .u64 (ub a.1.1), .int .u64 (ub a.1.2), .int .u64 (ub a.2.1), .int .u64 (ub a.2.2), .int .u64 (ub b.1.1), .int .u64 (ub b.1.2), .int .u64 (ub b.2.1), .int .u64 (ub b.2.2)] 63)).alloc (.cells #[.int .u64 (ub c.1.1), .int .u64 (ub c.1.2), .int .u64 (ub c.2.1), .int .u64 (ub c.2.2)] 28)) (w.heap.size + 1) c := (SC.new (x := c) (by simp))
  have B : Below w.heap.size w ((w.alloc (.cells #[.int .i64 op, .bool d, .int .u64 (ub a.1.1), .int .u64 (ub a.1.2), .int .u64 (ub a.2.1), .int .u64 (ub a.2.2), .int .u64 (ub b.1.1), .int .u64 (ub b.1.2), .int .u64 (ub b.2.1), .int .u64 (ub b.2.2)] 63)).alloc (.cells #[.int .u64 (ub c.1.1), .int .u64 (ub c.1.2), .int .u64 (ub c.2.1), .int .u64 (ub c.2.2)] 28)) := (bel_alloc (bel_alloc (Below.refl _ _)))
  generalize ((w.alloc (.cells #[.int .i64 op, .bool d, .int .u64 (ub a.1.1), .int .u64 (ub a.1.2), .int .u64 (ub a.2.1), .int .u64 (ub a.2.2), .int .u64 (ub b.1.1), .int .u64 (ub b.1.2), .int .u64 (ub b.2.1), .int .u64 (ub b.2.2)] 63)).alloc (.cells #[.int .u64 (ub c.1.1), .int .u64 (ub c.1.2), .int .u64 (ub c.2.1), .int .u64 (ub c.2.2)] 28)) = w00 at *
  have JM0 := JM.c0
  have JM1 := JM.c1
  have JM2 := JM.c2
  have JM3 := JM.c3
  have JM4 := JM.c4
  have JM5 := JM.c5
  have JM6 := JM.c6
  have JM7 := JM.c7
  have JM8 := JM.c8
  have JM9 := JM.c9
  have JMl := JM.lt
  have JC0 := JC.c0
  have JC1 := JC.c1
  have JC2 := JC.c2
  have JC3 := JC.c3
  have JCl := JC.lt
  have lb := B.size
  go_wp2_with fail
  refine (X0.out _).mono ?_
  rintro e w1 ⟨rfl, z⟩
  clear JM0 JM1 JM2 JM3 JM4 JM5 JM6 JM7 JM8 JM9 JMl JC0 JC1 JC2 JC3 JCl lb
  replace JM := JM.below z
  replace JC := JC.below z
  replace B := below_next B z
  clear z
  have JM0 := JM.c0
  have JM1 := JM.c1
  have JM2 := JM.c2
  have JM3 := JM.c3
  have JM4 := JM.c4
  have JM5 := JM.c5
  have JM6 := JM.c6
  have JM7 := JM.c7
  have JM8 := JM.c8
  have JM9 := JM.c9
  have JMl := JM.lt
  have JC0 := JC.c0
  have JC1 := JC.c1
  have JC2 := JC.c2
  have JC3 := JC.c3
  have JCl := JC.lt
  have lb := B.size
  go_wp2_with fail
  clear JM0 JM1 JM2 JM3 JM4 JM5 JM6 JM7 JM8 JM9 JMl JC0 JC1 JC2 JC3 JCl lb
  have JM0 := JM.c0
  have JM1 := JM.c1
  have JM2 := JM.c2
  have JM3 := JM.c3
  have JM4 := JM.c4
  have JM5 := JM.c5
  have JM6 := JM.c6
  have JM7 := JM.c7
  have JM8 := JM.c8
  have JM9 := JM.c9
  have JMl := JM.lt
  have JC0 := JC.c0
  have JC1 := JC.c1
  have JC2 := JC.c2
  have JC3 := JC.c3
  have JCl := JC.lt
  have ld := B.size
  apply cutGG (F := fun g h W' => SC W' g a ∧ SC W' h b ∧ SmC W' (w.heap.size) op d a b ∧ SC W' (w.heap.size + 1) c ∧ Below w.heap.size w W')
  · go_region
    all_goals
      obtain ⟨h, hh⟩ : ∃ h, w1.heap.size + 1 = h := ⟨_, rfl⟩
      obtain ⟨g, hg⟩ : ∃ g, w1.heap.size = g := ⟨_, rfl⟩
      first
        | (refine ⟨g, h, ⟨?_, ?_, ((JM.alloc _).alloc _).below (below_dr _), ((JC.alloc _).alloc _).below (below_dr _), below_next (bel_alloc (bel_alloc B)) (below_dr _)⟩, ?_⟩
           · rw [← hg]; exact (two_boxes a b _ _ rfl rfl).1
           · rw [← hh]; exact (two_boxes a b _ _ rfl rfl).2
           · rw [hh, hg])
        | (refine ⟨h, g, ⟨?_, ?_, ((JM.alloc _).alloc _).below (below_dr _), ((JC.alloc _).alloc _).below (below_dr _), below_next (bel_alloc (bel_alloc B)) (below_dr _)⟩, ?_⟩
           · rw [← hh]; exact (two_boxes b a _ _ rfl rfl).2
           · rw [← hg]; exact (two_boxes b a _ _ rfl rfl).1
           · rw [hh, hg])
  clear JM0 JM1 JM2 JM3 JM4 JM5 JM6 JM7 JM8 JM9 JC0 JC1 JC2 JC3 JMl JCl ld JM JC B
  intro g h w2 ⟨JA, JB, _, JC, B⟩
  have JA0 := JA.c0
  have JA1 := JA.c1
  have JA2 := JA.c2
  have JA3 := JA.c3
  have JAl := JA.lt
  have JB0 := JB.c0
  have JB1 := JB.c1
  have JB2 := JB.c2
  have JB3 := JB.c3
  have JBl := JB.lt
  have JC0 := JC.c0
  have JC1 := JC.c1
  have JC2 := JC.c2
  have JC3 := JC.c3
  have JCl := JC.lt
  have lb := B.size
  go_wp2_with fail
  refine (XA.out _).mono ?_
  rintro e w3 ⟨rfl, z⟩
  clear JA0 JA1 JA2 JA3 JAl JB0 JB1 JB2 JB3 JBl JC0 JC1 JC2 JC3 JCl lb
  replace JA := JA.below z
  replace JB := JB.below z
  replace JC := JC.below z
  replace B := below_next B z
  clear z
  have JA0 := JA.c0
  have JA1 := JA.c1
  have JA2 := JA.c2
  have JA3 := JA.c3
  have JAl := JA.lt
  have JB0 := JB.c0
  have JB1 := JB.c1
  have JB2 := JB.c2
  have JB3 := JB.c3
  have JBl := JB.lt
  have JC0 := JC.c0
  have JC1 := JC.c1
  have JC2 := JC.c2
  have JC3 := JC.c3
  have JCl := JC.lt
  have lb := B.size
  go_wp2_with fail
  refine (XB.out _).mono ?_
  rintro e w4 ⟨rfl, z⟩
  clear JA0 JA1 JA2 JA3 JAl JB0 JB1 JB2 JB3 JBl JC0 JC1 JC2 JC3 JCl lb
  replace JA := JA.below z
  replace JB := JB.below z
  replace JC := JC.below z
  replace B := below_next B z
  clear z
  have JA0 := JA.c0
  have JA1 := JA.c1
  have JA2 := JA.c2
  have JA3 := JA.c3
  have JAl := JA.lt
  have JB0 := JB.c0
  have JB1 := JB.c1
  have JB2 := JB.c2
  have JB3 := JB.c3
  have JBl := JB.lt
  have JC0 := JC.c0
  have JC1 := JC.c1
  have JC2 := JC.c2
  have JC3 := JC.c3
  have JCl := JC.lt
  have lb := B.size
  go_wp2_with fail
  refine (XC.out _).mono ?_
  rintro e w5 ⟨rfl, z⟩
  clear JA0 JA1 JA2 JA3 JAl JB0 JB1 JB2 JB3 JBl JC0 JC1 JC2 JC3 JCl lb
  replace JA := JA.below z
  replace JB := JB.below z
  replace JC := JC.below z
  replace B := below_next B z
  clear z
  have JA0 := JA.c0
  have JA1 := JA.c1
  have JA2 := JA.c2
  have JA3 := JA.c3
  have JAl := JA.lt
  have JB0 := JB.c0
  have JB1 := JB.c1
  have JB2 := JB.c2
  have JB3 := JB.c3
  have JBl := JB.lt
  have JC0 := JC.c0
  have JC1 := JC.c1
  have JC2 := JC.c2
  have JC3 := JC.c3
  have JCl := JC.lt
  have lb := B.size
  go_wp2_with fail
  refine cutS [46, 47, 48, 49, 50, 51, 52, 53, 54, 55, 56, 57, 58, 59, 60, 61, 62, 63, 64, 65, 66, 67, 68, 69, 70, 71, 72, 73, 74, 75, 76, 77, 78, 79, 80, 81, 82, 83, 84, 85, 86, 87, 88, 89, 90, 91, 92, 93, 94, 95, 96, 97, 98, 99, 100, 101, 102] (fun us W' => us.getD 56 undef = .bool false ∧ SC W' (g) a ∧ SC W' (h) b ∧ SC W' (w.heap.size + 1) c ∧ Below w.heap.size w W') ?_ ?_
  · skip
    rcases (show p = false ∨ p = true by cases p <;> simp) with rfl | rfl
    · skip
      · skip
        refine wp_region_held_drew (S := (fun w' : World => Below w5.heap.size w5 w')) (by kernel_rfl) ?_ (fun hHeld => ?_)
        · (try dsimp only); first | (with_reducible exact below_dr _) | (with_reducible exact Below.refl _ _) | exact below_dr _
        have hBk := below_dr w5
        refine tq 0 rfl (fun _ hS => by have c0 := cn hS JA0; have c1 := cn hS JA1; have c2 := cn hS JA2; have c3 := cn hS JA3; go_simp; try with_reducible rfl) ?_
        try simp only [s1, s2, s3]
        refine tq 1 rfl (fun _ hS => by have c0 := cn hS JA0; have c1 := cn hS JA1; have c2 := cn hS JA2; have c3 := cn hS JA3; go_simp; try with_reducible rfl) ?_
        try simp only [s1, s2, s3]
        refine wpAnyH_ready (rs := [2]) (by kernel_rfl) (by simp) ?_
        refine AllReadyH.cons rfl (fun K hK => ?_) AllReadyH.nil
        go_simp
        go_at_call 30
        refine (XI.out _).mono ?_
        rintro e wz1_1 ⟨rfl, bkz1_1⟩
        have hBn := below_next hBk bkz1_1
        clear hBk bkz1_1
        have hBk := hBn
        clear hBn
        try go_simp
        refine hK.out _ _ ?_ (fun hHeld => ?_)
        · (try dsimp only); exact hBk
        clear hK K
        (try simp only [Act.put, List.setIfInBounds_toArray, List.set_cons_zero, List.set_cons_succ])
        refine tq 3 rfl (fun _ hS => by go_simp; try with_reducible rfl) ?_
        try simp only [s1, s2, s3]
        refine tq 4 rfl (fun _ hS => by go_simp; try with_reducible rfl) ?_
        try simp only [s1, s2, s3]
        refine tq 5 rfl (fun _ hS => by have c0 := cn hS JA0; have c1 := cn hS JA1; have c2 := cn hS JA2; have c3 := cn hS JA3; go_simp; try with_reducible rfl) ?_
        try simp only [s1, s2, s3]
        refine wpAnyH_ready (rs := [6]) (by kernel_rfl) (by simp) ?_
        refine AllReadyH.cons rfl (fun K hK => ?_) AllReadyH.nil
        go_simp
        go_at_call 32
        refine (XL.out _).mono ?_
        rintro e wz1_2 ⟨rfl, bkz1_2⟩
        have hBn := below_next hBk bkz1_2
        clear hBk bkz1_2
        have hBk := hBn
        clear hBn
        try go_simp
        refine hK.out _ _ ?_ (fun hHeld => ?_)
        · (try dsimp only); exact hBk
        clear hK K
        (try simp only [Act.put, List.setIfInBounds_toArray, List.set_cons_zero, List.set_cons_succ])
        refine wpAnyH_ready (rs := [7]) (by kernel_rfl) (by simp) ?_
        refine AllReadyH.cons rfl (fun K hK => ?_) AllReadyH.nil
        go_simp
        go_at_call 30
        refine (XN.out _).mono ?_
        rintro e wz1_3 ⟨rfl, bkz1_3⟩
        have hBn := below_next hBk bkz1_3
        clear hBk bkz1_3
        have hBk := hBn
        clear hBn
        try go_simp
        refine hK.out _ _ ?_ (fun hHeld => ?_)
        · (try dsimp only); exact hBk
        clear hK K
        (try simp only [Act.put, List.setIfInBounds_toArray, List.set_cons_zero, List.set_cons_succ])
        refine tq 8 rfl (fun _ hS => by go_simp; try with_reducible rfl) ?_
        try simp only [s1, s2, s3]
        refine tq 9 rfl (fun _ hS => by go_simp; try with_reducible rfl) ?_
        try simp only [s1, s2, s3]
        refine tq 10 rfl (fun _ hS => by go_simp; try with_reducible rfl) ?_
        try simp only [s1, s2, s3]
        refine tq 11 rfl (fun _ hS => by have c0 := cn hS JA0; have c1 := cn hS JA1; have c2 := cn hS JA2; have c3 := cn hS JA3; go_simp; try with_reducible rfl) ?_
        try simp only [s1, s2, s3]
        refine tq 12 rfl (fun _ hS => by have c0 := cn hS JB0; have c1 := cn hS JB1; have c2 := cn hS JB2; have c3 := cn hS JB3; go_simp; try with_reducible rfl) ?_
        try simp only [s1, s2, s3]
        refine wpAnyH_ready (rs := [13]) (by kernel_rfl) (by simp) ?_
        refine AllReadyH.cons rfl (fun K hK => ?_) AllReadyH.nil
        go_simp
        go_at_call 30
        refine (XP.out _).mono ?_
        rintro e wz1_4 ⟨rfl, bkz1_4⟩
        have hBn := below_next hBk bkz1_4
        clear hBk bkz1_4
        have hBk := hBn
        clear hBn
        try go_simp
        refine hK.out _ _ ?_ (fun hHeld => ?_)
        · (try dsimp only); exact hBk
        clear hK K
        (try simp only [Act.put, List.setIfInBounds_toArray, List.set_cons_zero, List.set_cons_succ])
        refine tq 14 rfl (fun _ hS => by go_simp; try with_reducible rfl) ?_
        try simp only [s1, s2, s3]
        refine ts 15 rfl ?_
        try simp only [s1, s2, s3]
        refine ts 16 rfl ?_
        try simp only [s1, s2, s3]
        refine ts 17 rfl ?_
        try simp only [s1, s2, s3]
        refine tq 18 rfl (fun _ hS => by go_simp; try with_reducible rfl) ?_
        try simp only [s1, s2, s3]
        refine tq 19 rfl (fun _ hS => by go_simp; try with_reducible rfl) ?_
        try simp only [s1, s2, s3]
        refine ts 20 rfl ?_
        try simp only [s1, s2, s3]
        refine ts 21 rfl ?_
        try simp only [s1, s2, s3]
        refine ts 22 rfl ?_
        try simp only [s1, s2, s3]
        refine tq 23 rfl (fun _ hS => by go_simp; try with_reducible rfl) ?_
        try simp only [s1, s2, s3]
        refine tq 24 rfl (fun _ hS => by go_simp; try with_reducible rfl) ?_
        try simp only [s1, s2, s3]
        refine tq 25 rfl (fun _ hS => by go_simp; try with_reducible rfl) ?_
        try simp only [s1, s2, s3]
        refine tq 26 rfl (fun _ hS => by have c0 := cn hS JA0; have c1 := cn hS JA1; have c2 := cn hS JA2; have c3 := cn hS JA3; go_simp; try with_reducible rfl) ?_
        try simp only [s1, s2, s3]
        refine tq 27 rfl (fun _ hS => by have c0 := cn hS JB0; have c1 := cn hS JB1; have c2 := cn hS JB2; have c3 := cn hS JB3; go_simp; try with_reducible rfl) ?_
        try simp only [s1, s2, s3]
        refine wpAnyH_ready (rs := [28]) (by kernel_rfl) (by simp) ?_
        refine AllReadyH.cons rfl (fun K hK => ?_) AllReadyH.nil
        go_simp
        go_at_call 30
        refine (XP.out _).mono ?_
        rintro e wz1_5 ⟨rfl, bkz1_5⟩
        have hBn := below_next hBk bkz1_5
        clear hBk bkz1_5
        have hBk := hBn
        clear hBn
        try go_simp
        refine hK.out _ _ ?_ (fun hHeld => ?_)
        · (try dsimp only); exact hBk
        clear hK K
        (try simp only [Act.put, List.setIfInBounds_toArray, List.set_cons_zero, List.set_cons_succ])
        refine tq 29 rfl (fun _ hS => by go_simp; try with_reducible rfl) ?_
        try simp only [s1, s2, s3]
        refine ts 30 rfl ?_
        try simp only [s1, s2, s3]
        refine ts 31 rfl ?_
        try simp only [s1, s2, s3]
        refine ts 32 rfl ?_
        try simp only [s1, s2, s3]
        refine tq 33 rfl (fun _ hS => by go_simp; try with_reducible rfl) ?_
        try simp only [s1, s2, s3]
        refine tq 34 rfl (fun _ hS => by go_simp; try with_reducible rfl) ?_
        try simp only [s1, s2, s3]
        refine ts 35 rfl ?_
        try simp only [s1, s2, s3]
        refine ts 36 rfl ?_
        try simp only [s1, s2, s3]
        refine ts 37 rfl ?_
        try simp only [s1, s2, s3]
        refine ts 38 rfl ?_
        try simp only [s1, s2, s3]
        refine tq 39 rfl (fun _ hS => by go_simp; try with_reducible rfl) ?_
        try simp only [s1, s2, s3]
        refine tq 40 rfl (fun _ hS => by go_simp; try with_reducible rfl) ?_
        try simp only [s1, s2, s3]
        refine tq 41 rfl (fun _ hS => by go_simp; try with_reducible rfl) ?_
        try simp only [s1, s2, s3]
        refine tq 42 rfl (fun _ hS => by have c0 := cn hS JA0; have c1 := cn hS JA1; have c2 := cn hS JA2; have c3 := cn hS JA3; go_simp; try with_reducible rfl) ?_
        try simp only [s1, s2, s3]
        refine tq 43 rfl (fun _ hS => by have c0 := cn hS JB0; have c1 := cn hS JB1; have c2 := cn hS JB2; have c3 := cn hS JB3; go_simp; try with_reducible rfl) ?_
        try simp only [s1, s2, s3]
        refine wpAnyH_ready (rs := [44]) (by kernel_rfl) (by simp) ?_
        refine AllReadyH.cons rfl (fun K hK => ?_) AllReadyH.nil
        go_simp
        go_at_call 30
        refine (XP.out _).mono ?_
        rintro e wz1_6 ⟨rfl, bkz1_6⟩
        have hBn := below_next hBk bkz1_6
        clear hBk bkz1_6
        have hBk := hBn
        clear hBn
        try go_simp
        refine hK.out _ _ ?_ (fun hHeld => ?_)
        · (try dsimp only); exact hBk
        clear hK K
        (try simp only [Act.put, List.setIfInBounds_toArray, List.set_cons_zero, List.set_cons_succ])
        refine tq 45 rfl (fun _ hS => by go_simp; try with_reducible rfl) ?_
        try simp only [s1, s2, s3]
        refine ts 46 rfl ?_
        try simp only [s1, s2, s3]
        refine ts 47 rfl ?_
        try simp only [s1, s2, s3]
        refine ts 48 rfl ?_
        try simp only [s1, s2, s3]
        refine tq 49 rfl (fun _ hS => by go_simp; try with_reducible rfl) ?_
        try simp only [s1, s2, s3]
        refine tq 50 rfl (fun _ hS => by go_simp; try with_reducible rfl) ?_
        try simp only [s1, s2, s3]
        refine ts 51 rfl ?_
        try simp only [s1, s2, s3]
        refine ts 52 rfl ?_
        try simp only [s1, s2, s3]
        refine ts 53 rfl ?_
        try simp only [s1, s2, s3]
        refine ts 54 rfl ?_
        try simp only [s1, s2, s3]
        refine tq 55 rfl (fun _ hS => by go_simp; try with_reducible rfl) ?_
        try simp only [s1, s2, s3]
        refine tq 56 rfl (fun _ hS => by go_simp; try with_reducible rfl) ?_
        try simp only [s1, s2, s3]
        refine wpAnyH_done (by kernel_rfl) ?_ _
        
        exact cutEnd ⟨by kernel_rfl, JA.below hBk, JB.below hBk, JC.below hBk, below_next B hBk⟩ (by kernel_rfl)
    · skip
      rcases (show q = false ∨ q = true by cases q <;> simp) with rfl | rfl
      · skip
        rcases (show bc = false ∨ bc = true by cases bc <;> simp) with rfl | rfl
        · skip
          rcases (show an = false ∨ an = true by cases an <;> simp) with rfl | rfl
          · skip
            · skip
              refine wp_region_held_drew (S := (fun w' : World => Below w5.heap.size w5 w')) (by kernel_rfl) ?_ (fun hHeld => ?_)
              · (try dsimp only); first | (with_reducible exact below_dr _) | (with_reducible exact Below.refl _ _) | exact below_dr _
              have hBk := below_dr w5
              refine tq 0 rfl (fun _ hS => by have c0 := cn hS JA0; have c1 := cn hS JA1; have c2 := cn hS JA2; have c3 := cn hS JA3; go_simp; try with_reducible rfl) ?_
              try simp only [s1, s2, s3]
              refine tq 1 rfl (fun _ hS => by have c0 := cn hS JA0; have c1 := cn hS JA1; have c2 := cn hS JA2; have c3 := cn hS JA3; go_simp; try with_reducible rfl) ?_
              try simp only [s1, s2, s3]
              refine wpAnyH_ready (rs := [2]) (by kernel_rfl) (by simp) ?_
              refine AllReadyH.cons rfl (fun K hK => ?_) AllReadyH.nil
              go_simp
              go_at_call 30
              refine (XI.out _).mono ?_
              rintro e wz2_1 ⟨rfl, bkz2_1⟩
              have hBn := below_next hBk bkz2_1
              clear hBk bkz2_1
              have hBk := hBn
              clear hBn
              try go_simp
              refine hK.out _ _ ?_ (fun hHeld => ?_)
              · (try dsimp only); exact hBk
              clear hK K
              (try simp only [Act.put, List.setIfInBounds_toArray, List.set_cons_zero, List.set_cons_succ])
              refine tq 3 rfl (fun _ hS => by go_simp; try with_reducible rfl) ?_
              try simp only [s1, s2, s3]
              refine tq 4 rfl (fun _ hS => by go_simp; try with_reducible rfl) ?_
              try simp only [s1, s2, s3]
              refine tq 5 rfl (fun _ hS => by have c0 := cn hS JA0; have c1 := cn hS JA1; have c2 := cn hS JA2; have c3 := cn hS JA3; go_simp; try with_reducible rfl) ?_
              try simp only [s1, s2, s3]
              refine wpAnyH_ready (rs := [6]) (by kernel_rfl) (by simp) ?_
              refine AllReadyH.cons rfl (fun K hK => ?_) AllReadyH.nil
              go_simp
              go_at_call 32
              refine (XL.out _).mono ?_
              rintro e wz2_2 ⟨rfl, bkz2_2⟩
              have hBn := below_next hBk bkz2_2
              clear hBk bkz2_2
              have hBk := hBn
              clear hBn
              try go_simp
              refine hK.out _ _ ?_ (fun hHeld => ?_)
              · (try dsimp only); exact hBk
              clear hK K
              (try simp only [Act.put, List.setIfInBounds_toArray, List.set_cons_zero, List.set_cons_succ])
              refine wpAnyH_ready (rs := [7]) (by kernel_rfl) (by simp) ?_
              refine AllReadyH.cons rfl (fun K hK => ?_) AllReadyH.nil
              go_simp
              go_at_call 30
              refine (XN.out _).mono ?_
              rintro e wz2_3 ⟨rfl, bkz2_3⟩
              have hBn := below_next hBk bkz2_3
              clear hBk bkz2_3
              have hBk := hBn
              clear hBn
              try go_simp
              refine hK.out _ _ ?_ (fun hHeld => ?_)
              · (try dsimp only); exact hBk
              clear hK K
              (try simp only [Act.put, List.setIfInBounds_toArray, List.set_cons_zero, List.set_cons_succ])
              refine tq 8 rfl (fun _ hS => by go_simp; try with_reducible rfl) ?_
              try simp only [s1, s2, s3]
              refine tq 9 rfl (fun _ hS => by go_simp; try with_reducible rfl) ?_
              try simp only [s1, s2, s3]
              refine tq 10 rfl (fun _ hS => by go_simp; try with_reducible rfl) ?_
              try simp only [s1, s2, s3]
              refine tq 11 rfl (fun _ hS => by have c0 := cn hS JA0; have c1 := cn hS JA1; have c2 := cn hS JA2; have c3 := cn hS JA3; go_simp; try with_reducible rfl) ?_
              try simp only [s1, s2, s3]
              refine tq 12 rfl (fun _ hS => by have c0 := cn hS JB0; have c1 := cn hS JB1; have c2 := cn hS JB2; have c3 := cn hS JB3; go_simp; try with_reducible rfl) ?_
              try simp only [s1, s2, s3]
              refine wpAnyH_ready (rs := [13]) (by kernel_rfl) (by simp) ?_
              refine AllReadyH.cons rfl (fun K hK => ?_) AllReadyH.nil
              go_simp
              go_at_call 30
              refine (XP.out _).mono ?_
              rintro e wz2_4 ⟨rfl, bkz2_4⟩
              have hBn := below_next hBk bkz2_4
              clear hBk bkz2_4
              have hBk := hBn
              clear hBn
              try go_simp
              refine hK.out _ _ ?_ (fun hHeld => ?_)
              · (try dsimp only); exact hBk
              clear hK K
              (try simp only [Act.put, List.setIfInBounds_toArray, List.set_cons_zero, List.set_cons_succ])
              refine tq 14 rfl (fun _ hS => by go_simp; try with_reducible rfl) ?_
              try simp only [s1, s2, s3]
              refine tq 15 rfl (fun _ hS => by have c0 := cn hS JB0; have c1 := cn hS JB1; have c2 := cn hS JB2; have c3 := cn hS JB3; go_simp; try with_reducible rfl) ?_
              try simp only [s1, s2, s3]
              refine tq 16 rfl (fun _ hS => by have c0 := cn hS JA0; have c1 := cn hS JA1; have c2 := cn hS JA2; have c3 := cn hS JA3; go_simp; try with_reducible rfl) ?_
              try simp only [s1, s2, s3]
              refine wpAnyH_ready (rs := [17]) (by kernel_rfl) (by simp) ?_
              refine AllReadyH.cons rfl (fun K hK => ?_) AllReadyH.nil
              go_simp
              go_at_call 30
              refine (XQ.out _).mono ?_
              rintro e wz2_5 ⟨rfl, bkz2_5⟩
              have hBn := below_next hBk bkz2_5
              clear hBk bkz2_5
              have hBk := hBn
              clear hBn
              try go_simp
              refine hK.out _ _ ?_ (fun hHeld => ?_)
              · (try dsimp only); exact hBk
              clear hK K
              (try simp only [Act.put, List.setIfInBounds_toArray, List.set_cons_zero, List.set_cons_succ])
              refine tq 18 rfl (fun _ hS => by go_simp; try with_reducible rfl) ?_
              try simp only [s1, s2, s3]
              refine tq 19 rfl (fun _ hS => by go_simp; try with_reducible rfl) ?_
              try simp only [s1, s2, s3]
              refine ts 20 rfl ?_
              try simp only [s1, s2, s3]
              refine ts 21 rfl ?_
              try simp only [s1, s2, s3]
              refine ts 22 rfl ?_
              try simp only [s1, s2, s3]
              refine tq 23 rfl (fun _ hS => by go_simp; try with_reducible rfl) ?_
              try simp only [s1, s2, s3]
              refine tq 24 rfl (fun _ hS => by go_simp; try with_reducible rfl) ?_
              try simp only [s1, s2, s3]
              refine tq 25 rfl (fun _ hS => by go_simp; try with_reducible rfl) ?_
              try simp only [s1, s2, s3]
              refine tq 26 rfl (fun _ hS => by have c0 := cn hS JA0; have c1 := cn hS JA1; have c2 := cn hS JA2; have c3 := cn hS JA3; go_simp; try with_reducible rfl) ?_
              try simp only [s1, s2, s3]
              refine tq 27 rfl (fun _ hS => by have c0 := cn hS JB0; have c1 := cn hS JB1; have c2 := cn hS JB2; have c3 := cn hS JB3; go_simp; try with_reducible rfl) ?_
              try simp only [s1, s2, s3]
              refine wpAnyH_ready (rs := [28]) (by kernel_rfl) (by simp) ?_
              refine AllReadyH.cons rfl (fun K hK => ?_) AllReadyH.nil
              go_simp
              go_at_call 30
              refine (XP.out _).mono ?_
              rintro e wz2_6 ⟨rfl, bkz2_6⟩
              have hBn := below_next hBk bkz2_6
              clear hBk bkz2_6
              have hBk := hBn
              clear hBn
              try go_simp
              refine hK.out _ _ ?_ (fun hHeld => ?_)
              · (try dsimp only); exact hBk
              clear hK K
              (try simp only [Act.put, List.setIfInBounds_toArray, List.set_cons_zero, List.set_cons_succ])
              refine tq 29 rfl (fun _ hS => by go_simp; try with_reducible rfl) ?_
              try simp only [s1, s2, s3]
              refine tq 30 rfl (fun _ hS => by have c0 := cn hS JB0; have c1 := cn hS JB1; have c2 := cn hS JB2; have c3 := cn hS JB3; go_simp; try with_reducible rfl) ?_
              try simp only [s1, s2, s3]
              refine tq 31 rfl (fun _ hS => by have c0 := cn hS JC0; have c1 := cn hS JC1; have c2 := cn hS JC2; have c3 := cn hS JC3; go_simp; try with_reducible rfl) ?_
              try simp only [s1, s2, s3]
              refine wpAnyH_ready (rs := [32]) (by kernel_rfl) (by simp) ?_
              refine AllReadyH.cons rfl (fun K hK => ?_) AllReadyH.nil
              go_simp
              go_at_call 30
              refine (XR.out _).mono ?_
              rintro e wz2_7 ⟨rfl, bkz2_7⟩
              have hBn := below_next hBk bkz2_7
              clear hBk bkz2_7
              have hBk := hBn
              clear hBn
              try go_simp
              refine hK.out _ _ ?_ (fun hHeld => ?_)
              · (try dsimp only); exact hBk
              clear hK K
              (try simp only [Act.put, List.setIfInBounds_toArray, List.set_cons_zero, List.set_cons_succ])
              refine tq 33 rfl (fun _ hS => by go_simp; try with_reducible rfl) ?_
              try simp only [s1, s2, s3]
              refine tq 34 rfl (fun _ hS => by go_simp; try with_reducible rfl) ?_
              try simp only [s1, s2, s3]
              refine ts 35 rfl ?_
              try simp only [s1, s2, s3]
              refine ts 36 rfl ?_
              try simp only [s1, s2, s3]
              refine ts 37 rfl ?_
              try simp only [s1, s2, s3]
              refine ts 38 rfl ?_
              try simp only [s1, s2, s3]
              refine tq 39 rfl (fun _ hS => by go_simp; try with_reducible rfl) ?_
              try simp only [s1, s2, s3]
              refine tq 40 rfl (fun _ hS => by go_simp; try with_reducible rfl) ?_
              try simp only [s1, s2, s3]
              refine tq 41 rfl (fun _ hS => by go_simp; try with_reducible rfl) ?_
              try simp only [s1, s2, s3]
              refine tq 42 rfl (fun _ hS => by have c0 := cn hS JA0; have c1 := cn hS JA1; have c2 := cn hS JA2; have c3 := cn hS JA3; go_simp; try with_reducible rfl) ?_
              try simp only [s1, s2, s3]
              refine tq 43 rfl (fun _ hS => by have c0 := cn hS JB0; have c1 := cn hS JB1; have c2 := cn hS JB2; have c3 := cn hS JB3; go_simp; try with_reducible rfl) ?_
              try simp only [s1, s2, s3]
              refine wpAnyH_ready (rs := [44]) (by kernel_rfl) (by simp) ?_
              refine AllReadyH.cons rfl (fun K hK => ?_) AllReadyH.nil
              go_simp
              go_at_call 30
              refine (XP.out _).mono ?_
              rintro e wz2_8 ⟨rfl, bkz2_8⟩
              have hBn := below_next hBk bkz2_8
              clear hBk bkz2_8
              have hBk := hBn
              clear hBn
              try go_simp
              refine hK.out _ _ ?_ (fun hHeld => ?_)
              · (try dsimp only); exact hBk
              clear hK K
              (try simp only [Act.put, List.setIfInBounds_toArray, List.set_cons_zero, List.set_cons_succ])
              refine tq 45 rfl (fun _ hS => by go_simp; try with_reducible rfl) ?_
              try simp only [s1, s2, s3]
              refine tq 46 rfl (fun _ hS => by have c0 := cn hS JA0; have c1 := cn hS JA1; have c2 := cn hS JA2; have c3 := cn hS JA3; go_simp; try with_reducible rfl) ?_
              try simp only [s1, s2, s3]
              refine tq 47 rfl (fun _ hS => by go_simp; try with_reducible rfl) ?_
              try simp only [s1, s2, s3]
              refine wpAnyH_ready (rs := [48]) (by kernel_rfl) (by simp) ?_
              refine AllReadyH.cons rfl (fun K hK => ?_) AllReadyH.nil
              go_simp
              go_at_call 31
              refine (Ha.out _).mono ?_
              rintro e wz2_9 ⟨rfl, bkz2_9⟩
              have hBn := below_next hBk bkz2_9
              clear hBk bkz2_9
              have hBk := hBn
              clear hBn
              try go_simp
              refine hK.out _ _ ?_ (fun hHeld => ?_)
              · (try dsimp only); exact hBk
              clear hK K
              (try simp only [Act.put, List.setIfInBounds_toArray, List.set_cons_zero, List.set_cons_succ])
              refine tq 49 rfl (fun _ hS => by go_simp; try with_reducible rfl) ?_
              try simp only [s1, s2, s3]
              refine tq 50 rfl (fun _ hS => by go_simp; try with_reducible rfl) ?_
              try simp only [s1, s2, s3]
              refine ts 51 rfl ?_
              try simp only [s1, s2, s3]
              refine ts 52 rfl ?_
              try simp only [s1, s2, s3]
              refine ts 53 rfl ?_
              try simp only [s1, s2, s3]
              refine ts 54 rfl ?_
              try simp only [s1, s2, s3]
              refine tq 55 rfl (fun _ hS => by go_simp; try with_reducible rfl) ?_
              try simp only [s1, s2, s3]
              refine tq 56 rfl (fun _ hS => by go_simp; try with_reducible rfl) ?_
              try simp only [s1, s2, s3]
              refine wpAnyH_done (by kernel_rfl) ?_ _
              
              exact cutEnd ⟨by kernel_rfl, JA.below hBk, JB.below hBk, JC.below hBk, below_next B hBk⟩ (by kernel_rfl)
          · skip
            obtain rfl : bn = true := hs.out (by trivial) (by trivial)
            · skip
              refine wp_region_held_drew (S := (fun w' : World => Below w5.heap.size w5 w')) (by kernel_rfl) ?_ (fun hHeld => ?_)
              · (try dsimp only); first | (with_reducible exact below_dr _) | (with_reducible exact Below.refl _ _) | exact below_dr _
              have hBk := below_dr w5
              refine tq 0 rfl (fun _ hS => by have c0 := cn hS JA0; have c1 := cn hS JA1; have c2 := cn hS JA2; have c3 := cn hS JA3; go_simp; try with_reducible rfl) ?_
              try simp only [s1, s2, s3]
              refine tq 1 rfl (fun _ hS => by have c0 := cn hS JA0; have c1 := cn hS JA1; have c2 := cn hS JA2; have c3 := cn hS JA3; go_simp; try with_reducible rfl) ?_
              try simp only [s1, s2, s3]
              refine wpAnyH_ready (rs := [2]) (by kernel_rfl) (by simp) ?_
              refine AllReadyH.cons rfl (fun K hK => ?_) AllReadyH.nil
              go_simp
              go_at_call 30
              refine (XI.out _).mono ?_
              rintro e wz3_1 ⟨rfl, bkz3_1⟩
              have hBn := below_next hBk bkz3_1
              clear hBk bkz3_1
              have hBk := hBn
              clear hBn
              try go_simp
              refine hK.out _ _ ?_ (fun hHeld => ?_)
              · (try dsimp only); exact hBk
              clear hK K
              (try simp only [Act.put, List.setIfInBounds_toArray, List.set_cons_zero, List.set_cons_succ])
              refine tq 3 rfl (fun _ hS => by go_simp; try with_reducible rfl) ?_
              try simp only [s1, s2, s3]
              refine tq 4 rfl (fun _ hS => by go_simp; try with_reducible rfl) ?_
              try simp only [s1, s2, s3]
              refine tq 5 rfl (fun _ hS => by have c0 := cn hS JA0; have c1 := cn hS JA1; have c2 := cn hS JA2; have c3 := cn hS JA3; go_simp; try with_reducible rfl) ?_
              try simp only [s1, s2, s3]
              refine wpAnyH_ready (rs := [6]) (by kernel_rfl) (by simp) ?_
              refine AllReadyH.cons rfl (fun K hK => ?_) AllReadyH.nil
              go_simp
              go_at_call 32
              refine (XL.out _).mono ?_
              rintro e wz3_2 ⟨rfl, bkz3_2⟩
              have hBn := below_next hBk bkz3_2
              clear hBk bkz3_2
              have hBk := hBn
              clear hBn
              try go_simp
              refine hK.out _ _ ?_ (fun hHeld => ?_)
              · (try dsimp only); exact hBk
              clear hK K
              (try simp only [Act.put, List.setIfInBounds_toArray, List.set_cons_zero, List.set_cons_succ])
              refine wpAnyH_ready (rs := [7]) (by kernel_rfl) (by simp) ?_
              refine AllReadyH.cons rfl (fun K hK => ?_) AllReadyH.nil
              go_simp
              go_at_call 30
              refine (XN.out _).mono ?_
              rintro e wz3_3 ⟨rfl, bkz3_3⟩
              have hBn := below_next hBk bkz3_3
              clear hBk bkz3_3
              have hBk := hBn
              clear hBn
              try go_simp
              refine hK.out _ _ ?_ (fun hHeld => ?_)
              · (try dsimp only); exact hBk
              clear hK K
              (try simp only [Act.put, List.setIfInBounds_toArray, List.set_cons_zero, List.set_cons_succ])
              refine tq 8 rfl (fun _ hS => by go_simp; try with_reducible rfl) ?_
              try simp only [s1, s2, s3]
              refine tq 9 rfl (fun _ hS => by go_simp; try with_reducible rfl) ?_
              try simp only [s1, s2, s3]
              refine tq 10 rfl (fun _ hS => by go_simp; try with_reducible rfl) ?_
              try simp only [s1, s2, s3]
              refine tq 11 rfl (fun _ hS => by have c0 := cn hS JA0; have c1 := cn hS JA1; have c2 := cn hS JA2; have c3 := cn hS JA3; go_simp; try with_reducible rfl) ?_
              try simp only [s1, s2, s3]
              refine tq 12 rfl (fun _ hS => by have c0 := cn hS JB0; have c1 := cn hS JB1; have c2 := cn hS JB2; have c3 := cn hS JB3; go_simp; try with_reducible rfl) ?_
              try simp only [s1, s2, s3]
              refine wpAnyH_ready (rs := [13]) (by kernel_rfl) (by simp) ?_
              refine AllReadyH.cons rfl (fun K hK => ?_) AllReadyH.nil
              go_simp
              go_at_call 30
              refine (XP.out _).mono ?_
              rintro e wz3_4 ⟨rfl, bkz3_4⟩
              have hBn := below_next hBk bkz3_4
              clear hBk bkz3_4
              have hBk := hBn
              clear hBn
              try go_simp
              refine hK.out _ _ ?_ (fun hHeld => ?_)
              · (try dsimp only); exact hBk
              clear hK K
              (try simp only [Act.put, List.setIfInBounds_toArray, List.set_cons_zero, List.set_cons_succ])
              refine tq 14 rfl (fun _ hS => by go_simp; try with_reducible rfl) ?_
              try simp only [s1, s2, s3]
              refine tq 15 rfl (fun _ hS => by have c0 := cn hS JB0; have c1 := cn hS JB1; have c2 := cn hS JB2; have c3 := cn hS JB3; go_simp; try with_reducible rfl) ?_
              try simp only [s1, s2, s3]
              refine tq 16 rfl (fun _ hS => by have c0 := cn hS JA0; have c1 := cn hS JA1; have c2 := cn hS JA2; have c3 := cn hS JA3; go_simp; try with_reducible rfl) ?_
              try simp only [s1, s2, s3]
              refine wpAnyH_ready (rs := [17]) (by kernel_rfl) (by simp) ?_
              refine AllReadyH.cons rfl (fun K hK => ?_) AllReadyH.nil
              go_simp
              go_at_call 30
              refine (XQ.out _).mono ?_
              rintro e wz3_5 ⟨rfl, bkz3_5⟩
              have hBn := below_next hBk bkz3_5
              clear hBk bkz3_5
              have hBk := hBn
              clear hBn
              try go_simp
              refine hK.out _ _ ?_ (fun hHeld => ?_)
              · (try dsimp only); exact hBk
              clear hK K
              (try simp only [Act.put, List.setIfInBounds_toArray, List.set_cons_zero, List.set_cons_succ])
              refine tq 18 rfl (fun _ hS => by go_simp; try with_reducible rfl) ?_
              try simp only [s1, s2, s3]
              refine tq 19 rfl (fun _ hS => by go_simp; try with_reducible rfl) ?_
              try simp only [s1, s2, s3]
              refine ts 20 rfl ?_
              try simp only [s1, s2, s3]
              refine ts 21 rfl ?_
              try simp only [s1, s2, s3]
              refine ts 22 rfl ?_
              try simp only [s1, s2, s3]
              refine tq 23 rfl (fun _ hS => by go_simp; try with_reducible rfl) ?_
              try simp only [s1, s2, s3]
              refine tq 24 rfl (fun _ hS => by go_simp; try with_reducible rfl) ?_
              try simp only [s1, s2, s3]
              refine tq 25 rfl (fun _ hS => by go_simp; try with_reducible rfl) ?_
              try simp only [s1, s2, s3]
              refine tq 26 rfl (fun _ hS => by have c0 := cn hS JA0; have c1 := cn hS JA1; have c2 := cn hS JA2; have c3 := cn hS JA3; go_simp; try with_reducible rfl) ?_
              try simp only [s1, s2, s3]
              refine tq 27 rfl (fun _ hS => by have c0 := cn hS JB0; have c1 := cn hS JB1; have c2 := cn hS JB2; have c3 := cn hS JB3; go_simp; try with_reducible rfl) ?_
              try simp only [s1, s2, s3]
              refine wpAnyH_ready (rs := [28]) (by kernel_rfl) (by simp) ?_
              refine AllReadyH.cons rfl (fun K hK => ?_) AllReadyH.nil
              go_simp
              go_at_call 30
              refine (XP.out _).mono ?_
              rintro e wz3_6 ⟨rfl, bkz3_6⟩
              have hBn := below_next hBk bkz3_6
              clear hBk bkz3_6
              have hBk := hBn
              clear hBn
              try go_simp
              refine hK.out _ _ ?_ (fun hHeld => ?_)
              · (try dsimp only); exact hBk
              clear hK K
              (try simp only [Act.put, List.setIfInBounds_toArray, List.set_cons_zero, List.set_cons_succ])
              refine tq 29 rfl (fun _ hS => by go_simp; try with_reducible rfl) ?_
              try simp only [s1, s2, s3]
              refine tq 30 rfl (fun _ hS => by have c0 := cn hS JB0; have c1 := cn hS JB1; have c2 := cn hS JB2; have c3 := cn hS JB3; go_simp; try with_reducible rfl) ?_
              try simp only [s1, s2, s3]
              refine tq 31 rfl (fun _ hS => by have c0 := cn hS JC0; have c1 := cn hS JC1; have c2 := cn hS JC2; have c3 := cn hS JC3; go_simp; try with_reducible rfl) ?_
              try simp only [s1, s2, s3]
              refine wpAnyH_ready (rs := [32]) (by kernel_rfl) (by simp) ?_
              refine AllReadyH.cons rfl (fun K hK => ?_) AllReadyH.nil
              go_simp
              go_at_call 30
              refine (XR.out _).mono ?_
              rintro e wz3_7 ⟨rfl, bkz3_7⟩
              have hBn := below_next hBk bkz3_7
              clear hBk bkz3_7
              have hBk := hBn
              clear hBn
              try go_simp
              refine hK.out _ _ ?_ (fun hHeld => ?_)
              · (try dsimp only); exact hBk
              clear hK K
              (try simp only [Act.put, List.setIfInBounds_toArray, List.set_cons_zero, List.set_cons_succ])
              refine tq 33 rfl (fun _ hS => by go_simp; try with_reducible rfl) ?_
              try simp only [s1, s2, s3]
              refine tq 34 rfl (fun _ hS => by go_simp; try with_reducible rfl) ?_
              try simp only [s1, s2, s3]
              refine ts 35 rfl ?_
              try simp only [s1, s2, s3]
              refine ts 36 rfl ?_
              try simp only [s1, s2, s3]
              refine ts 37 rfl ?_
              try simp only [s1, s2, s3]
              refine ts 38 rfl ?_
              try simp only [s1, s2, s3]
              refine tq 39 rfl (fun _ hS => by go_simp; try with_reducible rfl) ?_
              try simp only [s1, s2, s3]
              refine tq 40 rfl (fun _ hS => by go_simp; try with_reducible rfl) ?_
              try simp only [s1, s2, s3]
              refine tq 41 rfl (fun _ hS => by go_simp; try with_reducible rfl) ?_
              try simp only [s1, s2, s3]
              refine tq 42 rfl (fun _ hS => by have c0 := cn hS JA0; have c1 := cn hS JA1; have c2 := cn hS JA2; have c3 := cn hS JA3; go_simp; try with_reducible rfl) ?_
              try simp only [s1, s2, s3]
              refine tq 43 rfl (fun _ hS => by have c0 := cn hS JB0; have c1 := cn hS JB1; have c2 := cn hS JB2; have c3 := cn hS JB3; go_simp; try with_reducible rfl) ?_
              try simp only [s1, s2, s3]
              refine wpAnyH_ready (rs := [44]) (by kernel_rfl) (by simp) ?_
              refine AllReadyH.cons rfl (fun K hK => ?_) AllReadyH.nil
              go_simp
              go_at_call 30
              refine (XP.out _).mono ?_
              rintro e wz3_8 ⟨rfl, bkz3_8⟩
              have hBn := below_next hBk bkz3_8
              clear hBk bkz3_8
              have hBk := hBn
              clear hBn
              try go_simp
              refine hK.out _ _ ?_ (fun hHeld => ?_)
              · (try dsimp only); exact hBk
              clear hK K
              (try simp only [Act.put, List.setIfInBounds_toArray, List.set_cons_zero, List.set_cons_succ])
              refine tq 45 rfl (fun _ hS => by go_simp; try with_reducible rfl) ?_
              try simp only [s1, s2, s3]
              refine tq 46 rfl (fun _ hS => by have c0 := cn hS JA0; have c1 := cn hS JA1; have c2 := cn hS JA2; have c3 := cn hS JA3; go_simp; try with_reducible rfl) ?_
              try simp only [s1, s2, s3]
              refine tq 47 rfl (fun _ hS => by go_simp; try with_reducible rfl) ?_
              try simp only [s1, s2, s3]
              refine wpAnyH_ready (rs := [48]) (by kernel_rfl) (by simp) ?_
              refine AllReadyH.cons rfl (fun K hK => ?_) AllReadyH.nil
              go_simp
              go_at_call 31
              refine (Ha.out _).mono ?_
              rintro e wz3_9 ⟨rfl, bkz3_9⟩
              have hBn := below_next hBk bkz3_9
              clear hBk bkz3_9
              have hBk := hBn
              clear hBn
              try go_simp
              refine hK.out _ _ ?_ (fun hHeld => ?_)
              · (try dsimp only); exact hBk
              clear hK K
              (try simp only [Act.put, List.setIfInBounds_toArray, List.set_cons_zero, List.set_cons_succ])
              refine tq 49 rfl (fun _ hS => by go_simp; try with_reducible rfl) ?_
              try simp only [s1, s2, s3]
              refine tq 50 rfl (fun _ hS => by go_simp; try with_reducible rfl) ?_
              try simp only [s1, s2, s3]
              refine tq 51 rfl (fun _ hS => by have c0 := cn hS JB0; have c1 := cn hS JB1; have c2 := cn hS JB2; have c3 := cn hS JB3; go_simp; try with_reducible rfl) ?_
              try simp only [s1, s2, s3]
              refine tq 52 rfl (fun _ hS => by go_simp; try with_reducible rfl) ?_
              try simp only [s1, s2, s3]
              refine wpAnyH_ready (rs := [53]) (by kernel_rfl) (by simp) ?_
              refine AllReadyH.cons rfl (fun K hK => ?_) AllReadyH.nil
              go_simp
              go_at_call 31
              refine (Hb.out _).mono ?_
              rintro e wz3_10 ⟨rfl, bkz3_10⟩
              have hBn := below_next hBk bkz3_10
              clear hBk bkz3_10
              have hBk := hBn
              clear hBn
              try go_simp
              refine hK.out _ _ ?_ (fun hHeld => ?_)
              · (try dsimp only); exact hBk
              clear hK K
              (try simp only [Act.put, List.setIfInBounds_toArray, List.set_cons_zero, List.set_cons_succ])
              refine tq 54 rfl (fun _ hS => by go_simp; try with_reducible rfl) ?_
              try simp only [s1, s2, s3]
              refine tq 55 rfl (fun _ hS => by go_simp; try with_reducible rfl) ?_
              try simp only [s1, s2, s3]
              refine tq 56 rfl (fun _ hS => by go_simp; try with_reducible rfl) ?_
              try simp only [s1, s2, s3]
              refine wpAnyH_done (by kernel_rfl) ?_ _
              
              exact cutEnd ⟨by kernel_rfl, JA.below hBk, JB.below hBk, JC.below hBk, below_next B hBk⟩ (by kernel_rfl)
        · skip
          exact absurd (tr.out (by trivial) (by trivial)) (by simp)
      · skip
        have hne := hne.out (by trivial) (by trivial)
        rcases (show bc = false ∨ bc = true by cases bc <;> simp) with rfl | rfl
        · skip
          rcases (show an = false ∨ an = true by cases an <;> simp) with rfl | rfl
          · skip
            · skip
              refine wp_region_held_drew (S := (fun w' : World => Below w5.heap.size w5 w')) (by kernel_rfl) ?_ (fun hHeld => ?_)
              · (try dsimp only); first | (with_reducible exact below_dr _) | (with_reducible exact Below.refl _ _) | exact below_dr _
              have hBk := below_dr w5
              refine tq 0 rfl (fun _ hS => by have c0 := cn hS JA0; have c1 := cn hS JA1; have c2 := cn hS JA2; have c3 := cn hS JA3; go_simp; try with_reducible rfl) ?_
              try simp only [s1, s2, s3]
              refine tq 1 rfl (fun _ hS => by have c0 := cn hS JA0; have c1 := cn hS JA1; have c2 := cn hS JA2; have c3 := cn hS JA3; go_simp; try with_reducible rfl) ?_
              try simp only [s1, s2, s3]
              refine wpAnyH_ready (rs := [2]) (by kernel_rfl) (by simp) ?_
              refine AllReadyH.cons rfl (fun K hK => ?_) AllReadyH.nil
              go_simp
              go_at_call 30
              refine (XI.out _).mono ?_
              rintro e wz4_1 ⟨rfl, bkz4_1⟩
              have hBn := below_next hBk bkz4_1
              clear hBk bkz4_1
              have hBk := hBn
              clear hBn
              try go_simp
              refine hK.out _ _ ?_ (fun hHeld => ?_)
              · (try dsimp only); exact hBk
              clear hK K
              (try simp only [Act.put, List.setIfInBounds_toArray, List.set_cons_zero, List.set_cons_succ])
              refine tq 3 rfl (fun _ hS => by go_simp; try with_reducible rfl) ?_
              try simp only [s1, s2, s3]
              refine tq 4 rfl (fun _ hS => by go_simp; try with_reducible rfl) ?_
              try simp only [s1, s2, s3]
              refine tq 5 rfl (fun _ hS => by have c0 := cn hS JA0; have c1 := cn hS JA1; have c2 := cn hS JA2; have c3 := cn hS JA3; go_simp; try with_reducible rfl) ?_
              try simp only [s1, s2, s3]
              refine wpAnyH_ready (rs := [6]) (by kernel_rfl) (by simp) ?_
              refine AllReadyH.cons rfl (fun K hK => ?_) AllReadyH.nil
              go_simp
              go_at_call 32
              refine (XL.out _).mono ?_
              rintro e wz4_2 ⟨rfl, bkz4_2⟩
              have hBn := below_next hBk bkz4_2
              clear hBk bkz4_2
              have hBk := hBn
              clear hBn
              try go_simp
              refine hK.out _ _ ?_ (fun hHeld => ?_)
              · (try dsimp only); exact hBk
              clear hK K
              (try simp only [Act.put, List.setIfInBounds_toArray, List.set_cons_zero, List.set_cons_succ])
              refine wpAnyH_ready (rs := [7]) (by kernel_rfl) (by simp) ?_
              refine AllReadyH.cons rfl (fun K hK => ?_) AllReadyH.nil
              go_simp
              go_at_call 30
              refine (XN.out _).mono ?_
              rintro e wz4_3 ⟨rfl, bkz4_3⟩
              have hBn := below_next hBk bkz4_3
              clear hBk bkz4_3
              have hBk := hBn
              clear hBn
              try go_simp
              refine hK.out _ _ ?_ (fun hHeld => ?_)
              · (try dsimp only); exact hBk
              clear hK K
              (try simp only [Act.put, List.setIfInBounds_toArray, List.set_cons_zero, List.set_cons_succ])
              refine tq 8 rfl (fun _ hS => by go_simp; try with_reducible rfl) ?_
              try simp only [s1, s2, s3]
              refine tq 9 rfl (fun _ hS => by go_simp; try with_reducible rfl) ?_
              try simp only [s1, s2, s3]
              refine tq 10 rfl (fun _ hS => by go_simp; try with_reducible rfl) ?_
              try simp only [s1, s2, s3]
              refine tq 11 rfl (fun _ hS => by have c0 := cn hS JA0; have c1 := cn hS JA1; have c2 := cn hS JA2; have c3 := cn hS JA3; go_simp; try with_reducible rfl) ?_
              try simp only [s1, s2, s3]
              refine tq 12 rfl (fun _ hS => by have c0 := cn hS JB0; have c1 := cn hS JB1; have c2 := cn hS JB2; have c3 := cn hS JB3; go_simp; try with_reducible rfl) ?_
              try simp only [s1, s2, s3]
              refine wpAnyH_ready (rs := [13]) (by kernel_rfl) (by simp) ?_
              refine AllReadyH.cons rfl (fun K hK => ?_) AllReadyH.nil
              go_simp
              go_at_call 30
              refine (XP.out _).mono ?_
              rintro e wz4_4 ⟨rfl, bkz4_4⟩
              have hBn := below_next hBk bkz4_4
              clear hBk bkz4_4
              have hBk := hBn
              clear hBn
              try go_simp
              refine hK.out _ _ ?_ (fun hHeld => ?_)
              · (try dsimp only); exact hBk
              clear hK K
              (try simp only [Act.put, List.setIfInBounds_toArray, List.set_cons_zero, List.set_cons_succ])
              refine tq 14 rfl (fun _ hS => by go_simp; try with_reducible rfl) ?_
              try simp only [s1, s2, s3]
              refine tq 15 rfl (fun _ hS => by have c0 := cn hS JB0; have c1 := cn hS JB1; have c2 := cn hS JB2; have c3 := cn hS JB3; go_simp; try with_reducible rfl) ?_
              try simp only [s1, s2, s3]
              refine tq 16 rfl (fun _ hS => by have c0 := cn hS JA0; have c1 := cn hS JA1; have c2 := cn hS JA2; have c3 := cn hS JA3; go_simp; try with_reducible rfl) ?_
              try simp only [s1, s2, s3]
              refine wpAnyH_ready (rs := [17]) (by kernel_rfl) (by simp) ?_
              refine AllReadyH.cons rfl (fun K hK => ?_) AllReadyH.nil
              go_simp
              go_at_call 30
              refine (XQ.out _).mono ?_
              rintro e wz4_5 ⟨rfl, bkz4_5⟩
              have hBn := below_next hBk bkz4_5
              clear hBk bkz4_5
              have hBk := hBn
              clear hBn
              try go_simp
              refine hK.out _ _ ?_ (fun hHeld => ?_)
              · (try dsimp only); exact hBk
              clear hK K
              (try simp only [Act.put, List.setIfInBounds_toArray, List.set_cons_zero, List.set_cons_succ])
              refine tq 18 rfl (fun _ hS => by go_simp; try with_reducible rfl) ?_
              try simp only [s1, s2, s3]
              refine tq 19 rfl (fun _ hS => by go_simp; try with_reducible rfl) ?_
              try simp only [s1, s2, s3]
              refine tq 20 rfl (fun _ hS => by have c0 := cn hS JA0; have c1 := cn hS JA1; have c2 := cn hS JA2; have c3 := cn hS JA3; go_simp; try with_reducible rfl) ?_
              try simp only [s1, s2, s3]
              refine tq 21 rfl (fun _ hS => by have c0 := cn hS JB0; have c1 := cn hS JB1; have c2 := cn hS JB2; have c3 := cn hS JB3; go_simp; try with_reducible rfl) ?_
              try simp only [s1, s2, s3]
              refine tq 22 rfl (fun _ hS => by go_simp; try with_reducible rfl) ?_
              try simp only [s1, s2, s3]
              refine tq 23 rfl (fun _ hS => by go_simp; try with_reducible rfl) ?_
              try simp only [s1, s2, s3]
              refine tq 24 rfl (fun _ hS => by go_simp; try with_reducible rfl) ?_
              try simp only [s1, s2, s3]
              refine tq 25 rfl (fun _ hS => by go_simp; try with_reducible rfl) ?_
              try simp only [s1, s2, s3]
              refine tq 26 rfl (fun _ hS => by have c0 := cn hS JA0; have c1 := cn hS JA1; have c2 := cn hS JA2; have c3 := cn hS JA3; go_simp; try with_reducible rfl) ?_
              try simp only [s1, s2, s3]
              refine tq 27 rfl (fun _ hS => by have c0 := cn hS JB0; have c1 := cn hS JB1; have c2 := cn hS JB2; have c3 := cn hS JB3; go_simp; try with_reducible rfl) ?_
              try simp only [s1, s2, s3]
              refine wpAnyH_ready (rs := [28]) (by kernel_rfl) (by simp) ?_
              refine AllReadyH.cons rfl (fun K hK => ?_) AllReadyH.nil
              go_simp
              go_at_call 30
              refine (XP.out _).mono ?_
              rintro e wz4_6 ⟨rfl, bkz4_6⟩
              have hBn := below_next hBk bkz4_6
              clear hBk bkz4_6
              have hBk := hBn
              clear hBn
              try go_simp
              refine hK.out _ _ ?_ (fun hHeld => ?_)
              · (try dsimp only); exact hBk
              clear hK K
              (try simp only [Act.put, List.setIfInBounds_toArray, List.set_cons_zero, List.set_cons_succ])
              refine tq 29 rfl (fun _ hS => by go_simp; try with_reducible rfl) ?_
              try simp only [s1, s2, s3]
              refine tq 30 rfl (fun _ hS => by have c0 := cn hS JB0; have c1 := cn hS JB1; have c2 := cn hS JB2; have c3 := cn hS JB3; go_simp; try with_reducible rfl) ?_
              try simp only [s1, s2, s3]
              refine tq 31 rfl (fun _ hS => by have c0 := cn hS JC0; have c1 := cn hS JC1; have c2 := cn hS JC2; have c3 := cn hS JC3; go_simp; try with_reducible rfl) ?_
              try simp only [s1, s2, s3]
              refine wpAnyH_ready (rs := [32]) (by kernel_rfl) (by simp) ?_
              refine AllReadyH.cons rfl (fun K hK => ?_) AllReadyH.nil
              go_simp
              go_at_call 30
              refine (XR.out _).mono ?_
              rintro e wz4_7 ⟨rfl, bkz4_7⟩
              have hBn := below_next hBk bkz4_7
              clear hBk bkz4_7
              have hBk := hBn
              clear hBn
              try go_simp
              refine hK.out _ _ ?_ (fun hHeld => ?_)
              · (try dsimp only); exact hBk
              clear hK K
              (try simp only [Act.put, List.setIfInBounds_toArray, List.set_cons_zero, List.set_cons_succ])
              refine tq 33 rfl (fun _ hS => by go_simp; try with_reducible rfl) ?_
              try simp only [s1, s2, s3]
              refine tq 34 rfl (fun _ hS => by go_simp; try with_reducible rfl) ?_
              try simp only [s1, s2, s3]
              refine ts 35 rfl ?_
              try simp only [s1, s2, s3]
              refine ts 36 rfl ?_
              try simp only [s1, s2, s3]
              refine ts 37 rfl ?_
              try simp only [s1, s2, s3]
              refine ts 38 rfl ?_
              try simp only [s1, s2, s3]
              refine tq 39 rfl (fun _ hS => by go_simp; try with_reducible rfl) ?_
              try simp only [s1, s2, s3]
              refine tq 40 rfl (fun _ hS => by go_simp; try with_reducible rfl) ?_
              try simp only [s1, s2, s3]
              refine tq 41 rfl (fun _ hS => by go_simp; try with_reducible rfl) ?_
              try simp only [s1, s2, s3]
              refine tq 42 rfl (fun _ hS => by have c0 := cn hS JA0; have c1 := cn hS JA1; have c2 := cn hS JA2; have c3 := cn hS JA3; go_simp; try with_reducible rfl) ?_
              try simp only [s1, s2, s3]
              refine tq 43 rfl (fun _ hS => by have c0 := cn hS JB0; have c1 := cn hS JB1; have c2 := cn hS JB2; have c3 := cn hS JB3; go_simp; try with_reducible rfl) ?_
              try simp only [s1, s2, s3]
              refine wpAnyH_ready (rs := [44]) (by kernel_rfl) (by simp) ?_
              refine AllReadyH.cons rfl (fun K hK => ?_) AllReadyH.nil
              go_simp
              go_at_call 30
              refine (XP.out _).mono ?_
              rintro e wz4_8 ⟨rfl, bkz4_8⟩
              have hBn := below_next hBk bkz4_8
              clear hBk bkz4_8
              have hBk := hBn
              clear hBn
              try go_simp
              refine hK.out _ _ ?_ (fun hHeld => ?_)
              · (try dsimp only); exact hBk
              clear hK K
              (try simp only [Act.put, List.setIfInBounds_toArray, List.set_cons_zero, List.set_cons_succ])
              refine tq 45 rfl (fun _ hS => by go_simp; try with_reducible rfl) ?_
              try simp only [s1, s2, s3]
              refine tq 46 rfl (fun _ hS => by have c0 := cn hS JA0; have c1 := cn hS JA1; have c2 := cn hS JA2; have c3 := cn hS JA3; go_simp; try with_reducible rfl) ?_
              try simp only [s1, s2, s3]
              refine tq 47 rfl (fun _ hS => by go_simp; try with_reducible rfl) ?_
              try simp only [s1, s2, s3]
              refine wpAnyH_ready (rs := [48]) (by kernel_rfl) (by simp) ?_
              refine AllReadyH.cons rfl (fun K hK => ?_) AllReadyH.nil
              go_simp
              go_at_call 31
              refine (Ha.out _).mono ?_
              rintro e wz4_9 ⟨rfl, bkz4_9⟩
              have hBn := below_next hBk bkz4_9
              clear hBk bkz4_9
              have hBk := hBn
              clear hBn
              try go_simp
              refine hK.out _ _ ?_ (fun hHeld => ?_)
              · (try dsimp only); exact hBk
              clear hK K
              (try simp only [Act.put, List.setIfInBounds_toArray, List.set_cons_zero, List.set_cons_succ])
              refine tq 49 rfl (fun _ hS => by go_simp; try with_reducible rfl) ?_
              try simp only [s1, s2, s3]
              refine tq 50 rfl (fun _ hS => by go_simp; try with_reducible rfl) ?_
              try simp only [s1, s2, s3]
              refine ts 51 rfl ?_
              try simp only [s1, s2, s3]
              refine ts 52 rfl ?_
              try simp only [s1, s2, s3]
              refine ts 53 rfl ?_
              try simp only [s1, s2, s3]
              refine ts 54 rfl ?_
              try simp only [s1, s2, s3]
              refine tq 55 rfl (fun _ hS => by go_simp; try with_reducible rfl) ?_
              try simp only [s1, s2, s3]
              refine tq 56 rfl (fun _ hS => by go_simp; try with_reducible rfl) ?_
              try simp only [s1, s2, s3]
              refine wpAnyH_done (by kernel_rfl) ?_ _
              
              exact cutEnd ⟨by kernel_rfl, JA.below hBk, JB.below hBk, JC.below hBk, below_next B hBk⟩ (by kernel_rfl)
          · skip
            obtain rfl : bn = true := hs.out (by trivial) (by trivial)
            · skip
              refine wp_region_held_drew (S := (fun w' : World => Below w5.heap.size w5 w')) (by kernel_rfl) ?_ (fun hHeld => ?_)
              · (try dsimp only); first | (with_reducible exact below_dr _) | (with_reducible exact Below.refl _ _) | exact below_dr _
              have hBk := below_dr w5
              refine tq 0 rfl (fun _ hS => by have c0 := cn hS JA0; have c1 := cn hS JA1; have c2 := cn hS JA2; have c3 := cn hS JA3; go_simp; try with_reducible rfl) ?_
              try simp only [s1, s2, s3]
              refine tq 1 rfl (fun _ hS => by have c0 := cn hS JA0; have c1 := cn hS JA1; have c2 := cn hS JA2; have c3 := cn hS JA3; go_simp; try with_reducible rfl) ?_
              try simp only [s1, s2, s3]
              refine wpAnyH_ready (rs := [2]) (by kernel_rfl) (by simp) ?_
              refine AllReadyH.cons rfl (fun K hK => ?_) AllReadyH.nil
              go_simp
              go_at_call 30
              refine (XI.out _).mono ?_
              rintro e wz5_1 ⟨rfl, bkz5_1⟩
              have hBn := below_next hBk bkz5_1
              clear hBk bkz5_1
              have hBk := hBn
              clear hBn
              try go_simp
              refine hK.out _ _ ?_ (fun hHeld => ?_)
              · (try dsimp only); exact hBk
              clear hK K
              (try simp only [Act.put, List.setIfInBounds_toArray, List.set_cons_zero, List.set_cons_succ])
              refine tq 3 rfl (fun _ hS => by go_simp; try with_reducible rfl) ?_
              try simp only [s1, s2, s3]
              refine tq 4 rfl (fun _ hS => by go_simp; try with_reducible rfl) ?_
              try simp only [s1, s2, s3]
              refine tq 5 rfl (fun _ hS => by have c0 := cn hS JA0; have c1 := cn hS JA1; have c2 := cn hS JA2; have c3 := cn hS JA3; go_simp; try with_reducible rfl) ?_
              try simp only [s1, s2, s3]
              refine wpAnyH_ready (rs := [6]) (by kernel_rfl) (by simp) ?_
              refine AllReadyH.cons rfl (fun K hK => ?_) AllReadyH.nil
              go_simp
              go_at_call 32
              refine (XL.out _).mono ?_
              rintro e wz5_2 ⟨rfl, bkz5_2⟩
              have hBn := below_next hBk bkz5_2
              clear hBk bkz5_2
              have hBk := hBn
              clear hBn
              try go_simp
              refine hK.out _ _ ?_ (fun hHeld => ?_)
              · (try dsimp only); exact hBk
              clear hK K
              (try simp only [Act.put, List.setIfInBounds_toArray, List.set_cons_zero, List.set_cons_succ])
              refine wpAnyH_ready (rs := [7]) (by kernel_rfl) (by simp) ?_
              refine AllReadyH.cons rfl (fun K hK => ?_) AllReadyH.nil
              go_simp
              go_at_call 30
              refine (XN.out _).mono ?_
              rintro e wz5_3 ⟨rfl, bkz5_3⟩
              have hBn := below_next hBk bkz5_3
              clear hBk bkz5_3
              have hBk := hBn
              clear hBn
              try go_simp
              refine hK.out _ _ ?_ (fun hHeld => ?_)
              · (try dsimp only); exact hBk
              clear hK K
              (try simp only [Act.put, List.setIfInBounds_toArray, List.set_cons_zero, List.set_cons_succ])
              refine tq 8 rfl (fun _ hS => by go_simp; try with_reducible rfl) ?_
              try simp only [s1, s2, s3]
              refine tq 9 rfl (fun _ hS => by go_simp; try with_reducible rfl) ?_
              try simp only [s1, s2, s3]
              refine tq 10 rfl (fun _ hS => by go_simp; try with_reducible rfl) ?_
              try simp only [s1, s2, s3]
              refine tq 11 rfl (fun _ hS => by have c0 := cn hS JA0; have c1 := cn hS JA1; have c2 := cn hS JA2; have c3 := cn hS JA3; go_simp; try with_reducible rfl) ?_
              try simp only [s1, s2, s3]
              refine tq 12 rfl (fun _ hS => by have c0 := cn hS JB0; have c1 := cn hS JB1; have c2 := cn hS JB2; have c3 := cn hS JB3; go_simp; try with_reducible rfl) ?_
              try simp only [s1, s2, s3]
              refine wpAnyH_ready (rs := [13]) (by kernel_rfl) (by simp) ?_
              refine AllReadyH.cons rfl (fun K hK => ?_) AllReadyH.nil
              go_simp
              go_at_call 30
              refine (XP.out _).mono ?_
              rintro e wz5_4 ⟨rfl, bkz5_4⟩
              have hBn := below_next hBk bkz5_4
              clear hBk bkz5_4
              have hBk := hBn
              clear hBn
              try go_simp
              refine hK.out _ _ ?_ (fun hHeld => ?_)
              · (try dsimp only); exact hBk
              clear hK K
              (try simp only [Act.put, List.setIfInBounds_toArray, List.set_cons_zero, List.set_cons_succ])
              refine tq 14 rfl (fun _ hS => by go_simp; try with_reducible rfl) ?_
              try simp only [s1, s2, s3]
              refine tq 15 rfl (fun _ hS => by have c0 := cn hS JB0; have c1 := cn hS JB1; have c2 := cn hS JB2; have c3 := cn hS JB3; go_simp; try with_reducible rfl) ?_
              try simp only [s1, s2, s3]
              refine tq 16 rfl (fun _ hS => by have c0 := cn hS JA0; have c1 := cn hS JA1; have c2 := cn hS JA2; have c3 := cn hS JA3; go_simp; try with_reducible rfl) ?_
              try simp only [s1, s2, s3]
              refine wpAnyH_ready (rs := [17]) (by kernel_rfl) (by simp) ?_
              refine AllReadyH.cons rfl (fun K hK => ?_) AllReadyH.nil
              go_simp
              go_at_call 30
              refine (XQ.out _).mono ?_
              rintro e wz5_5 ⟨rfl, bkz5_5⟩
              have hBn := below_next hBk bkz5_5
              clear hBk bkz5_5
              have hBk := hBn
              clear hBn
              try go_simp
              refine hK.out _ _ ?_ (fun hHeld => ?_)
              · (try dsimp only); exact hBk
              clear hK K
              (try simp only [Act.put, List.setIfInBounds_toArray, List.set_cons_zero, List.set_cons_succ])
              refine tq 18 rfl (fun _ hS => by go_simp; try with_reducible rfl) ?_
              try simp only [s1, s2, s3]
              refine tq 19 rfl (fun _ hS => by go_simp; try with_reducible rfl) ?_
              try simp only [s1, s2, s3]
              refine tq 20 rfl (fun _ hS => by have c0 := cn hS JA0; have c1 := cn hS JA1; have c2 := cn hS JA2; have c3 := cn hS JA3; go_simp; try with_reducible rfl) ?_
              try simp only [s1, s2, s3]
              refine tq 21 rfl (fun _ hS => by have c0 := cn hS JB0; have c1 := cn hS JB1; have c2 := cn hS JB2; have c3 := cn hS JB3; go_simp; try with_reducible rfl) ?_
              try simp only [s1, s2, s3]
              refine tq 22 rfl (fun _ hS => by go_simp; try with_reducible rfl) ?_
              try simp only [s1, s2, s3]
              refine tq 23 rfl (fun _ hS => by go_simp; try with_reducible rfl) ?_
              try simp only [s1, s2, s3]
              refine tq 24 rfl (fun _ hS => by go_simp; try with_reducible rfl) ?_
              try simp only [s1, s2, s3]
              refine tq 25 rfl (fun _ hS => by go_simp; try with_reducible rfl) ?_
              try simp only [s1, s2, s3]
              refine tq 26 rfl (fun _ hS => by have c0 := cn hS JA0; have c1 := cn hS JA1; have c2 := cn hS JA2; have c3 := cn hS JA3; go_simp; try with_reducible rfl) ?_
              try simp only [s1, s2, s3]
              refine tq 27 rfl (fun _ hS => by have c0 := cn hS JB0; have c1 := cn hS JB1; have c2 := cn hS JB2; have c3 := cn hS JB3; go_simp; try with_reducible rfl) ?_
              try simp only [s1, s2, s3]
              refine wpAnyH_ready (rs := [28]) (by kernel_rfl) (by simp) ?_
              refine AllReadyH.cons rfl (fun K hK => ?_) AllReadyH.nil
              go_simp
              go_at_call 30
              refine (XP.out _).mono ?_
              rintro e wz5_6 ⟨rfl, bkz5_6⟩
              have hBn := below_next hBk bkz5_6
              clear hBk bkz5_6
              have hBk := hBn
              clear hBn
              try go_simp
              refine hK.out _ _ ?_ (fun hHeld => ?_)
              · (try dsimp only); exact hBk
              clear hK K
              (try simp only [Act.put, List.setIfInBounds_toArray, List.set_cons_zero, List.set_cons_succ])
              refine tq 29 rfl (fun _ hS => by go_simp; try with_reducible rfl) ?_
              try simp only [s1, s2, s3]
              refine tq 30 rfl (fun _ hS => by have c0 := cn hS JB0; have c1 := cn hS JB1; have c2 := cn hS JB2; have c3 := cn hS JB3; go_simp; try with_reducible rfl) ?_
              try simp only [s1, s2, s3]
              refine tq 31 rfl (fun _ hS => by have c0 := cn hS JC0; have c1 := cn hS JC1; have c2 := cn hS JC2; have c3 := cn hS JC3; go_simp; try with_reducible rfl) ?_
              try simp only [s1, s2, s3]
              refine wpAnyH_ready (rs := [32]) (by kernel_rfl) (by simp) ?_
              refine AllReadyH.cons rfl (fun K hK => ?_) AllReadyH.nil
              go_simp
              go_at_call 30
              refine (XR.out _).mono ?_
              rintro e wz5_7 ⟨rfl, bkz5_7⟩
              have hBn := below_next hBk bkz5_7
              clear hBk bkz5_7
              have hBk := hBn
              clear hBn
              try go_simp
              refine hK.out _ _ ?_ (fun hHeld => ?_)
              · (try dsimp only); exact hBk
              clear hK K
              (try simp only [Act.put, List.setIfInBounds_toArray, List.set_cons_zero, List.set_cons_succ])
              refine tq 33 rfl (fun _ hS => by go_simp; try with_reducible rfl) ?_
              try simp only [s1, s2, s3]
              refine tq 34 rfl (fun _ hS => by go_simp; try with_reducible rfl) ?_
              try simp only [s1, s2, s3]
              refine ts 35 rfl ?_
              try simp only [s1, s2, s3]
              refine ts 36 rfl ?_
              try simp only [s1, s2, s3]
              refine ts 37 rfl ?_
              try simp only [s1, s2, s3]
              refine ts 38 rfl ?_
              try simp only [s1, s2, s3]
              refine tq 39 rfl (fun _ hS => by go_simp; try with_reducible rfl) ?_
              try simp only [s1, s2, s3]
              refine tq 40 rfl (fun _ hS => by go_simp; try with_reducible rfl) ?_
              try simp only [s1, s2, s3]
              refine tq 41 rfl (fun _ hS => by go_simp; try with_reducible rfl) ?_
              try simp only [s1, s2, s3]
              refine tq 42 rfl (fun _ hS => by have c0 := cn hS JA0; have c1 := cn hS JA1; have c2 := cn hS JA2; have c3 := cn hS JA3; go_simp; try with_reducible rfl) ?_
              try simp only [s1, s2, s3]
              refine tq 43 rfl (fun _ hS => by have c0 := cn hS JB0; have c1 := cn hS JB1; have c2 := cn hS JB2; have c3 := cn hS JB3; go_simp; try with_reducible rfl) ?_
              try simp only [s1, s2, s3]
              refine wpAnyH_ready (rs := [44]) (by kernel_rfl) (by simp) ?_
              refine AllReadyH.cons rfl (fun K hK => ?_) AllReadyH.nil
              go_simp
              go_at_call 30
              refine (XP.out _).mono ?_
              rintro e wz5_8 ⟨rfl, bkz5_8⟩
              have hBn := below_next hBk bkz5_8
              clear hBk bkz5_8
              have hBk := hBn
              clear hBn
              try go_simp
              refine hK.out _ _ ?_ (fun hHeld => ?_)
              · (try dsimp only); exact hBk
              clear hK K
              (try simp only [Act.put, List.setIfInBounds_toArray, List.set_cons_zero, List.set_cons_succ])
              refine tq 45 rfl (fun _ hS => by go_simp; try with_reducible rfl) ?_
              try simp only [s1, s2, s3]
              refine tq 46 rfl (fun _ hS => by have c0 := cn hS JA0; have c1 := cn hS JA1; have c2 := cn hS JA2; have c3 := cn hS JA3; go_simp; try with_reducible rfl) ?_
              try simp only [s1, s2, s3]
              refine tq 47 rfl (fun _ hS => by go_simp; try with_reducible rfl) ?_
              try simp only [s1, s2, s3]
              refine wpAnyH_ready (rs := [48]) (by kernel_rfl) (by simp) ?_
              refine AllReadyH.cons rfl (fun K hK => ?_) AllReadyH.nil
              go_simp
              go_at_call 31
              refine (Ha.out _).mono ?_
              rintro e wz5_9 ⟨rfl, bkz5_9⟩
              have hBn := below_next hBk bkz5_9
              clear hBk bkz5_9
              have hBk := hBn
              clear hBn
              try go_simp
              refine hK.out _ _ ?_ (fun hHeld => ?_)
              · (try dsimp only); exact hBk
              clear hK K
              (try simp only [Act.put, List.setIfInBounds_toArray, List.set_cons_zero, List.set_cons_succ])
              refine tq 49 rfl (fun _ hS => by go_simp; try with_reducible rfl) ?_
              try simp only [s1, s2, s3]
              refine tq 50 rfl (fun _ hS => by go_simp; try with_reducible rfl) ?_
              try simp only [s1, s2, s3]
              refine tq 51 rfl (fun _ hS => by have c0 := cn hS JB0; have c1 := cn hS JB1; have c2 := cn hS JB2; have c3 := cn hS JB3; go_simp; try with_reducible rfl) ?_
              try simp only [s1, s2, s3]
              refine tq 52 rfl (fun _ hS => by go_simp; try with_reducible rfl) ?_
              try simp only [s1, s2, s3]
              refine wpAnyH_ready (rs := [53]) (by kernel_rfl) (by simp) ?_
              refine AllReadyH.cons rfl (fun K hK => ?_) AllReadyH.nil
              go_simp
              go_at_call 31
              refine (Hb.out _).mono ?_
              rintro e wz5_10 ⟨rfl, bkz5_10⟩
              have hBn := below_next hBk bkz5_10
              clear hBk bkz5_10
              have hBk := hBn
              clear hBn
              try go_simp
              refine hK.out _ _ ?_ (fun hHeld => ?_)
              · (try dsimp only); exact hBk
              clear hK K
              (try simp only [Act.put, List.setIfInBounds_toArray, List.set_cons_zero, List.set_cons_succ])
              refine tq 54 rfl (fun _ hS => by go_simp; try with_reducible rfl) ?_
              try simp only [s1, s2, s3]
              refine tq 55 rfl (fun _ hS => by go_simp; try with_reducible rfl) ?_
              try simp only [s1, s2, s3]
              refine tq 56 rfl (fun _ hS => by go_simp; try with_reducible rfl) ?_
              try simp only [s1, s2, s3]
              refine wpAnyH_done (by kernel_rfl) ?_ _
              
              exact cutEnd ⟨by kernel_rfl, JA.below hBk, JB.below hBk, JC.below hBk, below_next B hBk⟩ (by kernel_rfl)
        · skip
          exact absurd (tr.out (by trivial) (by trivial)) (by simp)
  clear JA0 JA1 JA2 JA3 JAl JB0 JB1 JB2 JB3 JBl JC0 JC1 JC2 JC3 JCl lb
  clear JA JB JC B
  intro w6 u46 u47 u48 u49 u50 u51 u52 u53 u54 u55 u56 u57 u58 u59 u60 u61 u62 u63 u64 u65 u66 u67 u68 u69 u70 u71 u72 u73 u74 u75 u76 u77 u78 u79 u80 u81 u82 u83 u84 u85 u86 u87 u88 u89 u90 u91 u92 u93 u94 u95 u96 u97 u98 u99 u100 u101 u102 hF
  obtain ⟨eF, JA, JB, JC, B⟩ := hF
  replace eF : u102 = .bool false := eF
  subst eF
  simp only [sets, s1, s2, s3]
  have JA0 := JA.c0
  have JA1 := JA.c1
  have JA2 := JA.c2
  have JA3 := JA.c3
  have JAl := JA.lt
  have JB0 := JB.c0
  have JB1 := JB.c1
  have JB2 := JB.c2
  have JB3 := JB.c3
  have JBl := JB.lt
  have JC0 := JC.c0
  have JC1 := JC.c1
  have JC2 := JC.c2
  have JC3 := JC.c3
  have JCl := JC.lt
  have lb := B.size
  go_wp2_with fail
  refine (XJ.out _).mono ?_
  rintro e w7 ⟨rfl, z⟩
  clear JA0 JA1 JA2 JA3 JAl JB0 JB1 JB2 JB3 JBl JC0 JC1 JC2 JC3 JCl lb
  replace JA := JA.below z
  replace JB := JB.below z
  replace JC := JC.below z
  replace B := below_next B z
  clear z
  have JA0 := JA.c0
  have JA1 := JA.c1
  have JA2 := JA.c2
  have JA3 := JA.c3
  have JAl := JA.lt
  have JB0 := JB.c0
  have JB1 := JB.c1
  have JB2 := JB.c2
  have JB3 := JB.c3
  have JBl := JB.lt
  have JC0 := JC.c0
  have JC1 := JC.c1
  have JC2 := JC.c2
  have JC3 := JC.c3
  have JCl := JC.lt
  have lb := B.size
  go_wp2_with fail
  refine (Iaj.out _).mono ?_
  rintro e w8 ⟨rfl, z⟩
  clear JA0 JA1 JA2 JA3 JAl JB0 JB1 JB2 JB3 JBl JC0 JC1 JC2 JC3 JCl lb
  have g8JA : g < w7.heap.size := JA.lt
  have g8JB : h < w7.heap.size := JB.lt
  have g8JC : w.heap.size + 1 < w7.heap.size := JC.lt
  have g8B := B.size
  replace JA := (JA.alloc _).below z
  replace JB := (JB.alloc _).below z
  replace JC := (JC.alloc _).below z
  have JJ : SC w8 (w7.heap.size) (J) := (SC.new rfl).below z
  replace B := below_next (bel_alloc B) z
  clear z
  have JA0 := JA.c0
  have JA1 := JA.c1
  have JA2 := JA.c2
  have JA3 := JA.c3
  have JAl := JA.lt
  have JB0 := JB.c0
  have JB1 := JB.c1
  have JB2 := JB.c2
  have JB3 := JB.c3
  have JBl := JB.lt
  have JC0 := JC.c0
  have JC1 := JC.c1
  have JC2 := JC.c2
  have JC3 := JC.c3
  have JCl := JC.lt
  have JJ0 := JJ.c0
  have JJ1 := JJ.c1
  have JJ2 := JJ.c2
  have JJ3 := JJ.c3
  have JJl := JJ.lt
  have lb := B.size
  go_wp2_with fail
  refine (Ibj.out _).mono ?_
  rintro e w9 ⟨rfl, z⟩
  clear JA0 JA1 JA2 JA3 JAl JB0 JB1 JB2 JB3 JBl JC0 JC1 JC2 JC3 JCl JJ0 JJ1 JJ2 JJ3 JJl lb
  replace JA := JA.below z
  replace JB := JB.below z
  replace JC := JC.below z
  replace JJ := JJ.below z
  replace B := below_next B z
  clear z
  have JA0 := JA.c0
  have JA1 := JA.c1
  have JA2 := JA.c2
  have JA3 := JA.c3
  have JAl := JA.lt
  have JB0 := JB.c0
  have JB1 := JB.c1
  have JB2 := JB.c2
  have JB3 := JB.c3
  have JBl := JB.lt
  have JC0 := JC.c0
  have JC1 := JC.c1
  have JC2 := JC.c2
  have JC3 := JC.c3
  have JCl := JC.lt
  have JJ0 := JJ.c0
  have JJ1 := JJ.c1
  have JJ2 := JJ.c2
  have JJ3 := JJ.c3
  have JJl := JJ.lt
  have lb := B.size
  go_wp2_with fail
  refine (XT.out _).mono ?_
  rintro e w10 ⟨rfl, z⟩
  clear JA0 JA1 JA2 JA3 JAl JB0 JB1 JB2 JB3 JBl JC0 JC1 JC2 JC3 JCl JJ0 JJ1 JJ2 JJ3 JJl lb
  replace JA := JA.below z
  replace JB := JB.below z
  replace JC := JC.below z
  replace JJ := JJ.below z
  replace B := below_next B z
  clear z
  have JA0 := JA.c0
  have JA1 := JA.c1
  have JA2 := JA.c2
  have JA3 := JA.c3
  have JAl := JA.lt
  have JB0 := JB.c0
  have JB1 := JB.c1
  have JB2 := JB.c2
  have JB3 := JB.c3
  have JBl := JB.lt
  have JC0 := JC.c0
  have JC1 := JC.c1
  have JC2 := JC.c2
  have JC3 := JC.c3
  have JCl := JC.lt
  have JJ0 := JJ.c0
  have JJ1 := JJ.c1
  have JJ2 := JJ.c2
  have JJ3 := JJ.c3
  have JJl := JJ.lt
  have lb := B.size
  go_wp2_with fail
  refine (XM.out _).mono ?_
  rintro e w11 ⟨rfl, z⟩
  clear JA0 JA1 JA2 JA3 JAl JB0 JB1 JB2 JB3 JBl JC0 JC1 JC2 JC3 JCl JJ0 JJ1 JJ2 JJ3 JJl lb
  replace JA := JA.below z
  replace JB := JB.below z
  replace JC := JC.below z
  replace JJ := JJ.below z
  replace B := below_next B z
  clear z
  rcases (show mk = true ∨ mk = false by cases mk <;> simp) with rfl | rfl
  · skip
    rcases (show an = true ∨ an = false by cases an <;> simp) with rfl | rfl
    · skip
      rcases (show bn = true ∨ bn = false by cases bn <;> simp) with rfl | rfl
      · skip
        as_aux_lemma =>
          obtain rfl : vm = true := by have := mn.out; simpa using this
          obtain rfl : ma = true := mA.out (by trivial)
          obtain rfl : mb = true := mB.out (by trivial)
          have JA0 := JA.c0
          have JA1 := JA.c1
          have JA2 := JA.c2
          have JA3 := JA.c3
          have JAl := JA.lt
          have JB0 := JB.c0
          have JB1 := JB.c1
          have JB2 := JB.c2
          have JB3 := JB.c3
          have JBl := JB.lt
          have JC0 := JC.c0
          have JC1 := JC.c1
          have JC2 := JC.c2
          have JC3 := JC.c3
          have JCl := JC.lt
          have JJ0 := JJ.c0
          have JJ1 := JJ.c1
          have JJ2 := JJ.c2
          have JJ3 := JJ.c3
          have JJl := JJ.lt
          have lb := B.size
          go_wp2_with fail
          clear JA0 JA1 JA2 JA3 JAl JB0 JB1 JB2 JB3 JBl JC0 JC1 JC2 JC3 JCl JJ0 JJ1 JJ2 JJ3 JJl lb
          have JM2 : SC (w11.alloc (.cells #[.int .u64 (ub M0.1.1), .int .u64 (ub M0.1.2), .int .u64 (ub M0.2.1), .int .u64 (ub M0.2.2)] 28)) w11.heap.size M0 := SC.new rfl
          have gq11JA : g < w11.heap.size := JA.lt
          replace JA := JA.alloc (.cells #[.int .u64 (ub M0.1.1), .int .u64 (ub M0.1.2), .int .u64 (ub M0.2.1), .int .u64 (ub M0.2.2)] 28)
          have gq11JB : h < w11.heap.size := JB.lt
          replace JB := JB.alloc (.cells #[.int .u64 (ub M0.1.1), .int .u64 (ub M0.1.2), .int .u64 (ub M0.2.1), .int .u64 (ub M0.2.2)] 28)
          have gq11JC : w.heap.size + 1 < w11.heap.size := JC.lt
          replace JC := JC.alloc (.cells #[.int .u64 (ub M0.1.1), .int .u64 (ub M0.1.2), .int .u64 (ub M0.2.1), .int .u64 (ub M0.2.2)] 28)
          have gq11JJ : w7.heap.size < w11.heap.size := JJ.lt
          replace JJ := JJ.alloc (.cells #[.int .u64 (ub M0.1.1), .int .u64 (ub M0.1.2), .int .u64 (ub M0.2.1), .int .u64 (ub M0.2.2)] 28)
          replace B := bel_alloc (o := (.cells #[.int .u64 (ub M0.1.1), .int .u64 (ub M0.1.2), .int .u64 (ub M0.2.1), .int .u64 (ub M0.2.2)] 28)) B
          generalize w11.alloc (.cells #[.int .u64 (ub M0.1.1), .int .u64 (ub M0.1.2), .int .u64 (ub M0.2.1), .int .u64 (ub M0.2.2)] 28) = w12 at *
          have JA0 := JA.c0
          have JA1 := JA.c1
          have JA2 := JA.c2
          have JA3 := JA.c3
          have JAl := JA.lt
          have JB0 := JB.c0
          have JB1 := JB.c1
          have JB2 := JB.c2
          have JB3 := JB.c3
          have JBl := JB.lt
          have JC0 := JC.c0
          have JC1 := JC.c1
          have JC2 := JC.c2
          have JC3 := JC.c3
          have JCl := JC.lt
          have JJ0 := JJ.c0
          have JJ1 := JJ.c1
          have JJ2 := JJ.c2
          have JJ3 := JJ.c3
          have JJl := JJ.lt
          have JM20 := JM2.c0
          have JM21 := JM2.c1
          have JM22 := JM2.c2
          have JM23 := JM2.c3
          have JM2l := JM2.lt
          have lb := B.size
          go_wp2_with fail
          refine wp_region_held_drew (S := (fun w' : World => Below w12.heap.size w12 w')) (by kernel_rfl) ?_ (fun hHeld => ?_)
          · (try dsimp only); first | (with_reducible exact below_dr _) | (with_reducible exact Below.refl _ _) | exact below_dr _
          have hBk := below_dr w12
          refine tq 0 rfl (fun _ hS => by go_simp; try with_reducible rfl) ?_
          try simp only [s1, s2, s3]
          refine tq 1 rfl (fun _ hS => by go_simp; try with_reducible rfl) ?_
          try simp only [s1, s2, s3]
          refine tq 2 rfl (fun _ hS => by have c0 := cn hS JM20; have c1 := cn hS JM21; have c2 := cn hS JM22; have c3 := cn hS JM23; go_simp; try with_reducible rfl) ?_
          try simp only [s1, s2, s3]
          refine tq 3 rfl (fun _ hS => by go_simp; try with_reducible rfl) ?_
          try simp only [s1, s2, s3]
          refine tq 6 rfl (fun _ hS => by have c0 := cn hS JA0; have c1 := cn hS JA1; have c2 := cn hS JA2; have c3 := cn hS JA3; go_simp; try with_reducible rfl) ?_
          try simp only [s1, s2, s3]
          refine tq 7 rfl (fun _ hS => by go_simp; try with_reducible rfl) ?_
          try simp only [s1, s2, s3]
          refine wpAnyH_ready (rs := [4]) (by kernel_rfl) (by simp) ?_
          refine AllReadyH.cons rfl (fun K hK => ?_) AllReadyH.nil
          go_simp
          go_at_call 31
          refine (Hm.out _).mono ?_
          rintro e wz6_1 ⟨rfl, bkz6_1⟩
          have hBn := below_next hBk bkz6_1
          clear hBk bkz6_1
          have hBk := hBn
          clear hBn
          try go_simp
          refine hK.out _ _ ?_ (fun hHeld => ?_)
          · (try dsimp only); exact hBk
          clear hK K
          (try simp only [Act.put, List.setIfInBounds_toArray, List.set_cons_zero, List.set_cons_succ])
          refine tq 5 rfl (fun _ hS => by go_simp; try with_reducible rfl) ?_
          try simp only [s1, s2, s3]
          refine wpAnyH_ready (rs := [8]) (by kernel_rfl) (by simp) ?_
          refine AllReadyH.cons rfl (fun K hK => ?_) AllReadyH.nil
          go_simp
          go_at_call 31
          refine (Ha.out _).mono ?_
          rintro e wz6_2 ⟨rfl, bkz6_2⟩
          have hBn := below_next hBk bkz6_2
          clear hBk bkz6_2
          have hBk := hBn
          clear hBn
          try go_simp
          refine hK.out _ _ ?_ (fun hHeld => ?_)
          · (try dsimp only); exact hBk
          clear hK K
          (try simp only [Act.put, List.setIfInBounds_toArray, List.set_cons_zero, List.set_cons_succ])
          refine tq 9 rfl (fun _ hS => by go_simp; try with_reducible rfl) ?_
          try simp only [s1, s2, s3]
          refine tq 10 rfl (fun _ hS => by have c0 := cn hS JB0; have c1 := cn hS JB1; have c2 := cn hS JB2; have c3 := cn hS JB3; go_simp; try with_reducible rfl) ?_
          try simp only [s1, s2, s3]
          refine tq 11 rfl (fun _ hS => by go_simp; try with_reducible rfl) ?_
          try simp only [s1, s2, s3]
          refine wpAnyH_ready (rs := [12]) (by kernel_rfl) (by simp) ?_
          refine AllReadyH.cons rfl (fun K hK => ?_) AllReadyH.nil
          go_simp
          go_at_call 31
          refine (Hb.out _).mono ?_
          rintro e wz6_3 ⟨rfl, bkz6_3⟩
          have hBn := below_next hBk bkz6_3
          clear hBk bkz6_3
          have hBk := hBn
          clear hBn
          try go_simp
          refine hK.out _ _ ?_ (fun hHeld => ?_)
          · (try dsimp only); exact hBk
          clear hK K
          (try simp only [Act.put, List.setIfInBounds_toArray, List.set_cons_zero, List.set_cons_succ])
          refine tq 13 rfl (fun _ hS => by go_simp; try with_reducible rfl) ?_
          try simp only [s1, s2, s3]
          refine tq 14 rfl (fun _ hS => by go_simp; try with_reducible rfl) ?_
          try simp only [s1, s2, s3]
          refine tq 15 rfl (fun _ hS => by go_simp; try with_reducible rfl) ?_
          try simp only [s1, s2, s3]
          refine tq 16 rfl (fun _ hS => by go_simp; try with_reducible rfl) ?_
          try simp only [s1, s2, s3]
          refine tq 17 rfl (fun _ hS => by go_simp; try with_reducible rfl) ?_
          try simp only [s1, s2, s3]
          refine tq 18 rfl (fun _ hS => by go_simp; try with_reducible rfl) ?_
          try simp only [s1, s2, s3]
          refine tq 19 rfl (fun _ hS => by have c0 := cn hS JM20; have c1 := cn hS JM21; have c2 := cn hS JM22; have c3 := cn hS JM23; go_simp; try with_reducible rfl) ?_
          try simp only [s1, s2, s3]
          refine tq 20 rfl (fun _ hS => by have c0 := cn hS JA0; have c1 := cn hS JA1; have c2 := cn hS JA2; have c3 := cn hS JA3; go_simp; try with_reducible rfl) ?_
          try simp only [s1, s2, s3]
          refine wpAnyH_ready (rs := [21]) (by kernel_rfl) (by simp) ?_
          refine AllReadyH.cons rfl (fun K hK => ?_) AllReadyH.nil
          go_simp
          go_at_call 30
          refine (Ima.out _).mono ?_
          rintro e wz6_4 ⟨rfl, bkz6_4⟩
          have hBn := below_next hBk bkz6_4
          clear hBk bkz6_4
          have hBk := hBn
          clear hBn
          try go_simp
          refine hK.out _ _ ?_ (fun hHeld => ?_)
          · (try dsimp only); exact hBk
          clear hK K
          (try simp only [Act.put, List.setIfInBounds_toArray, List.set_cons_zero, List.set_cons_succ])
          refine tq 22 rfl (fun _ hS => by go_simp; try with_reducible rfl) ?_
          try simp only [s1, s2, s3]
          refine tq 23 rfl (fun _ hS => by have c0 := cn hS JM20; have c1 := cn hS JM21; have c2 := cn hS JM22; have c3 := cn hS JM23; go_simp; try with_reducible rfl) ?_
          try simp only [s1, s2, s3]
          refine tq 24 rfl (fun _ hS => by have c0 := cn hS JB0; have c1 := cn hS JB1; have c2 := cn hS JB2; have c3 := cn hS JB3; go_simp; try with_reducible rfl) ?_
          try simp only [s1, s2, s3]
          refine wpAnyH_ready (rs := [25]) (by kernel_rfl) (by simp) ?_
          refine AllReadyH.cons rfl (fun K hK => ?_) AllReadyH.nil
          go_simp
          go_at_call 30
          refine (Imb.out _).mono ?_
          rintro e wz6_5 ⟨rfl, bkz6_5⟩
          have hBn := below_next hBk bkz6_5
          clear hBk bkz6_5
          have hBk := hBn
          clear hBn
          try go_simp
          refine hK.out _ _ ?_ (fun hHeld => ?_)
          · (try dsimp only); exact hBk
          clear hK K
          (try simp only [Act.put, List.setIfInBounds_toArray, List.set_cons_zero, List.set_cons_succ])
          refine tq 26 rfl (fun _ hS => by go_simp; try with_reducible rfl) ?_
          try simp only [s1, s2, s3]
          refine tq 27 rfl (fun _ hS => by go_simp; try with_reducible rfl) ?_
          try simp only [s1, s2, s3]
          refine tq 28 rfl (fun _ hS => by go_simp; try with_reducible rfl) ?_
          try simp only [s1, s2, s3]
          refine tq 29 rfl (fun _ hS => by go_simp; try with_reducible rfl) ?_
          try simp only [s1, s2, s3]
          refine wpAnyH_done (by kernel_rfl) ?_ _
          
          clear JA0 JA1 JA2 JA3 JAl JB0 JB1 JB2 JB3 JBl JC0 JC1 JC2 JC3 JCl JJ0 JJ1 JJ2 JJ3 JJl JM20 JM21 JM22 JM23 JM2l lb
          generalize wz6_5 = w13 at hBk ⊢
          replace JA := JA.below hBk
          replace JB := JB.below hBk
          replace JC := JC.below hBk
          replace JJ := JJ.below hBk
          replace JM2 := JM2.below hBk
          replace B := below_next B hBk
          clear hBk
          go_wp2
          go_ret
          exact ⟨rfl, B⟩
      · skip
        as_aux_lemma =>
          obtain rfl : vm = false := by have := mn.out; simpa using this
          obtain rfl : ma = true := mA.out (by trivial)
          obtain rfl : mb = true := mB.out (by trivial)
          have JA0 := JA.c0
          have JA1 := JA.c1
          have JA2 := JA.c2
          have JA3 := JA.c3
          have JAl := JA.lt
          have JB0 := JB.c0
          have JB1 := JB.c1
          have JB2 := JB.c2
          have JB3 := JB.c3
          have JBl := JB.lt
          have JC0 := JC.c0
          have JC1 := JC.c1
          have JC2 := JC.c2
          have JC3 := JC.c3
          have JCl := JC.lt
          have JJ0 := JJ.c0
          have JJ1 := JJ.c1
          have JJ2 := JJ.c2
          have JJ3 := JJ.c3
          have JJl := JJ.lt
          have lb := B.size
          go_wp2_with fail
          clear JA0 JA1 JA2 JA3 JAl JB0 JB1 JB2 JB3 JBl JC0 JC1 JC2 JC3 JCl JJ0 JJ1 JJ2 JJ3 JJl lb
          have JM2 : SC (w11.alloc (.cells #[.int .u64 (ub M0.1.1), .int .u64 (ub M0.1.2), .int .u64 (ub M0.2.1), .int .u64 (ub M0.2.2)] 28)) w11.heap.size M0 := SC.new rfl
          have gq11JA : g < w11.heap.size := JA.lt
          replace JA := JA.alloc (.cells #[.int .u64 (ub M0.1.1), .int .u64 (ub M0.1.2), .int .u64 (ub M0.2.1), .int .u64 (ub M0.2.2)] 28)
          have gq11JB : h < w11.heap.size := JB.lt
          replace JB := JB.alloc (.cells #[.int .u64 (ub M0.1.1), .int .u64 (ub M0.1.2), .int .u64 (ub M0.2.1), .int .u64 (ub M0.2.2)] 28)
          have gq11JC : w.heap.size + 1 < w11.heap.size := JC.lt
          replace JC := JC.alloc (.cells #[.int .u64 (ub M0.1.1), .int .u64 (ub M0.1.2), .int .u64 (ub M0.2.1), .int .u64 (ub M0.2.2)] 28)
          have gq11JJ : w7.heap.size < w11.heap.size := JJ.lt
          replace JJ := JJ.alloc (.cells #[.int .u64 (ub M0.1.1), .int .u64 (ub M0.1.2), .int .u64 (ub M0.2.1), .int .u64 (ub M0.2.2)] 28)
          replace B := bel_alloc (o := (.cells #[.int .u64 (ub M0.1.1), .int .u64 (ub M0.1.2), .int .u64 (ub M0.2.1), .int .u64 (ub M0.2.2)] 28)) B
          generalize w11.alloc (.cells #[.int .u64 (ub M0.1.1), .int .u64 (ub M0.1.2), .int .u64 (ub M0.2.1), .int .u64 (ub M0.2.2)] 28) = w12 at *
          have JA0 := JA.c0
          have JA1 := JA.c1
          have JA2 := JA.c2
          have JA3 := JA.c3
          have JAl := JA.lt
          have JB0 := JB.c0
          have JB1 := JB.c1
          have JB2 := JB.c2
          have JB3 := JB.c3
          have JBl := JB.lt
          have JC0 := JC.c0
          have JC1 := JC.c1
          have JC2 := JC.c2
          have JC3 := JC.c3
          have JCl := JC.lt
          have JJ0 := JJ.c0
          have JJ1 := JJ.c1
          have JJ2 := JJ.c2
          have JJ3 := JJ.c3
          have JJl := JJ.lt
          have JM20 := JM2.c0
          have JM21 := JM2.c1
          have JM22 := JM2.c2
          have JM23 := JM2.c3
          have JM2l := JM2.lt
          have lb := B.size
          go_wp2_with fail
          refine wp_region_held_drew (S := (fun w' : World => Below w12.heap.size w12 w')) (by kernel_rfl) ?_ (fun hHeld => ?_)
          · (try dsimp only); first | (with_reducible exact below_dr _) | (with_reducible exact Below.refl _ _) | exact below_dr _
          have hBk := below_dr w12
          refine tq 0 rfl (fun _ hS => by go_simp; try with_reducible rfl) ?_
          try simp only [s1, s2, s3]
          refine tq 1 rfl (fun _ hS => by go_simp; try with_reducible rfl) ?_
          try simp only [s1, s2, s3]
          refine tq 2 rfl (fun _ hS => by have c0 := cn hS JM20; have c1 := cn hS JM21; have c2 := cn hS JM22; have c3 := cn hS JM23; go_simp; try with_reducible rfl) ?_
          try simp only [s1, s2, s3]
          refine tq 3 rfl (fun _ hS => by go_simp; try with_reducible rfl) ?_
          try simp only [s1, s2, s3]
          refine tq 6 rfl (fun _ hS => by have c0 := cn hS JA0; have c1 := cn hS JA1; have c2 := cn hS JA2; have c3 := cn hS JA3; go_simp; try with_reducible rfl) ?_
          try simp only [s1, s2, s3]
          refine tq 7 rfl (fun _ hS => by go_simp; try with_reducible rfl) ?_
          try simp only [s1, s2, s3]
          refine wpAnyH_ready (rs := [4]) (by kernel_rfl) (by simp) ?_
          refine AllReadyH.cons rfl (fun K hK => ?_) AllReadyH.nil
          go_simp
          go_at_call 31
          refine (Hm.out _).mono ?_
          rintro e wz7_1 ⟨rfl, bkz7_1⟩
          have hBn := below_next hBk bkz7_1
          clear hBk bkz7_1
          have hBk := hBn
          clear hBn
          try go_simp
          refine hK.out _ _ ?_ (fun hHeld => ?_)
          · (try dsimp only); exact hBk
          clear hK K
          (try simp only [Act.put, List.setIfInBounds_toArray, List.set_cons_zero, List.set_cons_succ])
          refine tq 5 rfl (fun _ hS => by go_simp; try with_reducible rfl) ?_
          try simp only [s1, s2, s3]
          refine wpAnyH_ready (rs := [8]) (by kernel_rfl) (by simp) ?_
          refine AllReadyH.cons rfl (fun K hK => ?_) AllReadyH.nil
          go_simp
          go_at_call 31
          refine (Ha.out _).mono ?_
          rintro e wz7_2 ⟨rfl, bkz7_2⟩
          have hBn := below_next hBk bkz7_2
          clear hBk bkz7_2
          have hBk := hBn
          clear hBn
          try go_simp
          refine hK.out _ _ ?_ (fun hHeld => ?_)
          · (try dsimp only); exact hBk
          clear hK K
          (try simp only [Act.put, List.setIfInBounds_toArray, List.set_cons_zero, List.set_cons_succ])
          refine tq 9 rfl (fun _ hS => by go_simp; try with_reducible rfl) ?_
          try simp only [s1, s2, s3]
          refine tq 10 rfl (fun _ hS => by have c0 := cn hS JB0; have c1 := cn hS JB1; have c2 := cn hS JB2; have c3 := cn hS JB3; go_simp; try with_reducible rfl) ?_
          try simp only [s1, s2, s3]
          refine tq 11 rfl (fun _ hS => by go_simp; try with_reducible rfl) ?_
          try simp only [s1, s2, s3]
          refine wpAnyH_ready (rs := [12]) (by kernel_rfl) (by simp) ?_
          refine AllReadyH.cons rfl (fun K hK => ?_) AllReadyH.nil
          go_simp
          go_at_call 31
          refine (Hb.out _).mono ?_
          rintro e wz7_3 ⟨rfl, bkz7_3⟩
          have hBn := below_next hBk bkz7_3
          clear hBk bkz7_3
          have hBk := hBn
          clear hBn
          try go_simp
          refine hK.out _ _ ?_ (fun hHeld => ?_)
          · (try dsimp only); exact hBk
          clear hK K
          (try simp only [Act.put, List.setIfInBounds_toArray, List.set_cons_zero, List.set_cons_succ])
          refine tq 13 rfl (fun _ hS => by go_simp; try with_reducible rfl) ?_
          try simp only [s1, s2, s3]
          refine tq 14 rfl (fun _ hS => by go_simp; try with_reducible rfl) ?_
          try simp only [s1, s2, s3]
          refine tq 15 rfl (fun _ hS => by go_simp; try with_reducible rfl) ?_
          try simp only [s1, s2, s3]
          refine tq 16 rfl (fun _ hS => by go_simp; try with_reducible rfl) ?_
          try simp only [s1, s2, s3]
          refine tq 17 rfl (fun _ hS => by go_simp; try with_reducible rfl) ?_
          try simp only [s1, s2, s3]
          refine tq 18 rfl (fun _ hS => by go_simp; try with_reducible rfl) ?_
          try simp only [s1, s2, s3]
          refine tq 19 rfl (fun _ hS => by have c0 := cn hS JM20; have c1 := cn hS JM21; have c2 := cn hS JM22; have c3 := cn hS JM23; go_simp; try with_reducible rfl) ?_
          try simp only [s1, s2, s3]
          refine tq 20 rfl (fun _ hS => by have c0 := cn hS JA0; have c1 := cn hS JA1; have c2 := cn hS JA2; have c3 := cn hS JA3; go_simp; try with_reducible rfl) ?_
          try simp only [s1, s2, s3]
          refine wpAnyH_ready (rs := [21]) (by kernel_rfl) (by simp) ?_
          refine AllReadyH.cons rfl (fun K hK => ?_) AllReadyH.nil
          go_simp
          go_at_call 30
          refine (Ima.out _).mono ?_
          rintro e wz7_4 ⟨rfl, bkz7_4⟩
          have hBn := below_next hBk bkz7_4
          clear hBk bkz7_4
          have hBk := hBn
          clear hBn
          try go_simp
          refine hK.out _ _ ?_ (fun hHeld => ?_)
          · (try dsimp only); exact hBk
          clear hK K
          (try simp only [Act.put, List.setIfInBounds_toArray, List.set_cons_zero, List.set_cons_succ])
          refine tq 22 rfl (fun _ hS => by go_simp; try with_reducible rfl) ?_
          try simp only [s1, s2, s3]
          refine tq 23 rfl (fun _ hS => by have c0 := cn hS JM20; have c1 := cn hS JM21; have c2 := cn hS JM22; have c3 := cn hS JM23; go_simp; try with_reducible rfl) ?_
          try simp only [s1, s2, s3]
          refine tq 24 rfl (fun _ hS => by have c0 := cn hS JB0; have c1 := cn hS JB1; have c2 := cn hS JB2; have c3 := cn hS JB3; go_simp; try with_reducible rfl) ?_
          try simp only [s1, s2, s3]
          refine wpAnyH_ready (rs := [25]) (by kernel_rfl) (by simp) ?_
          refine AllReadyH.cons rfl (fun K hK => ?_) AllReadyH.nil
          go_simp
          go_at_call 30
          refine (Imb.out _).mono ?_
          rintro e wz7_5 ⟨rfl, bkz7_5⟩
          have hBn := below_next hBk bkz7_5
          clear hBk bkz7_5
          have hBk := hBn
          clear hBn
          try go_simp
          refine hK.out _ _ ?_ (fun hHeld => ?_)
          · (try dsimp only); exact hBk
          clear hK K
          (try simp only [Act.put, List.setIfInBounds_toArray, List.set_cons_zero, List.set_cons_succ])
          refine tq 26 rfl (fun _ hS => by go_simp; try with_reducible rfl) ?_
          try simp only [s1, s2, s3]
          refine tq 27 rfl (fun _ hS => by go_simp; try with_reducible rfl) ?_
          try simp only [s1, s2, s3]
          refine tq 28 rfl (fun _ hS => by go_simp; try with_reducible rfl) ?_
          try simp only [s1, s2, s3]
          refine tq 29 rfl (fun _ hS => by go_simp; try with_reducible rfl) ?_
          try simp only [s1, s2, s3]
          refine wpAnyH_done (by kernel_rfl) ?_ _
          
          clear JA0 JA1 JA2 JA3 JAl JB0 JB1 JB2 JB3 JBl JC0 JC1 JC2 JC3 JCl JJ0 JJ1 JJ2 JJ3 JJl JM20 JM21 JM22 JM23 JM2l lb
          generalize wz7_5 = w13 at hBk ⊢
          replace JA := JA.below hBk
          replace JB := JB.below hBk
          replace JC := JC.below hBk
          replace JJ := JJ.below hBk
          replace JM2 := JM2.below hBk
          replace B := below_next B hBk
          clear hBk
          go_wp2
          go_ret
          exact ⟨rfl, B⟩
    · skip
      as_aux_lemma =>
        obtain rfl : vm = false := by have := mn.out; simpa using this
        obtain rfl : ma = true := mA.out (by trivial)
        obtain rfl : mb = true := mB.out (by trivial)
        have JA0 := JA.c0
        have JA1 := JA.c1
        have JA2 := JA.c2
        have JA3 := JA.c3
        have JAl := JA.lt
        have JB0 := JB.c0
        have JB1 := JB.c1
        have JB2 := JB.c2
        have JB3 := JB.c3
        have JBl := JB.lt
        have JC0 := JC.c0
        have JC1 := JC.c1
        have JC2 := JC.c2
        have JC3 := JC.c3
        have JCl := JC.lt
        have JJ0 := JJ.c0
        have JJ1 := JJ.c1
        have JJ2 := JJ.c2
        have JJ3 := JJ.c3
        have JJl := JJ.lt
        have lb := B.size
        go_wp2_with fail
        clear JA0 JA1 JA2 JA3 JAl JB0 JB1 JB2 JB3 JBl JC0 JC1 JC2 JC3 JCl JJ0 JJ1 JJ2 JJ3 JJl lb
        have JM2 : SC (w11.alloc (.cells #[.int .u64 (ub M0.1.1), .int .u64 (ub M0.1.2), .int .u64 (ub M0.2.1), .int .u64 (ub M0.2.2)] 28)) w11.heap.size M0 := SC.new rfl
        have gq11JA : g < w11.heap.size := JA.lt
        replace JA := JA.alloc (.cells #[.int .u64 (ub M0.1.1), .int .u64 (ub M0.1.2), .int .u64 (ub M0.2.1), .int .u64 (ub M0.2.2)] 28)
        have gq11JB : h < w11.heap.size := JB.lt
        replace JB := JB.alloc (.cells #[.int .u64 (ub M0.1.1), .int .u64 (ub M0.1.2), .int .u64 (ub M0.2.1), .int .u64 (ub M0.2.2)] 28)
        have gq11JC : w.heap.size + 1 < w11.heap.size := JC.lt
        replace JC := JC.alloc (.cells #[.int .u64 (ub M0.1.1), .int .u64 (ub M0.1.2), .int .u64 (ub M0.2.1), .int .u64 (ub M0.2.2)] 28)
        have gq11JJ : w7.heap.size < w11.heap.size := JJ.lt
        replace JJ := JJ.alloc (.cells #[.int .u64 (ub M0.1.1), .int .u64 (ub M0.1.2), .int .u64 (ub M0.2.1), .int .u64 (ub M0.2.2)] 28)
        replace B := bel_alloc (o := (.cells #[.int .u64 (ub M0.1.1), .int .u64 (ub M0.1.2), .int .u64 (ub M0.2.1), .int .u64 (ub M0.2.2)] 28)) B
        generalize w11.alloc (.cells #[.int .u64 (ub M0.1.1), .int .u64 (ub M0.1.2), .int .u64 (ub M0.2.1), .int .u64 (ub M0.2.2)] 28) = w12 at *
        have JA0 := JA.c0
        have JA1 := JA.c1
        have JA2 := JA.c2
        have JA3 := JA.c3
        have JAl := JA.lt
        have JB0 := JB.c0
        have JB1 := JB.c1
        have JB2 := JB.c2
        have JB3 := JB.c3
        have JBl := JB.lt
        have JC0 := JC.c0
        have JC1 := JC.c1
        have JC2 := JC.c2
        have JC3 := JC.c3
        have JCl := JC.lt
        have JJ0 := JJ.c0
        have JJ1 := JJ.c1
        have JJ2 := JJ.c2
        have JJ3 := JJ.c3
        have JJl := JJ.lt
        have JM20 := JM2.c0
        have JM21 := JM2.c1
        have JM22 := JM2.c2
        have JM23 := JM2.c3
        have JM2l := JM2.lt
        have lb := B.size
        go_wp2_with fail
        refine wp_region_held_drew (S := (fun w' : World => Below w12.heap.size w12 w')) (by kernel_rfl) ?_ (fun hHeld => ?_)
        · (try dsimp only); first | (with_reducible exact below_dr _) | (with_reducible exact Below.refl _ _) | exact below_dr _
        have hBk := below_dr w12
        refine tq 0 rfl (fun _ hS => by go_simp; try with_reducible rfl) ?_
        try simp only [s1, s2, s3]
        refine tq 1 rfl (fun _ hS => by go_simp; try with_reducible rfl) ?_
        try simp only [s1, s2, s3]
        refine tq 2 rfl (fun _ hS => by have c0 := cn hS JM20; have c1 := cn hS JM21; have c2 := cn hS JM22; have c3 := cn hS JM23; go_simp; try with_reducible rfl) ?_
        try simp only [s1, s2, s3]
        refine tq 3 rfl (fun _ hS => by go_simp; try with_reducible rfl) ?_
        try simp only [s1, s2, s3]
        refine tq 6 rfl (fun _ hS => by have c0 := cn hS JA0; have c1 := cn hS JA1; have c2 := cn hS JA2; have c3 := cn hS JA3; go_simp; try with_reducible rfl) ?_
        try simp only [s1, s2, s3]
        refine tq 7 rfl (fun _ hS => by go_simp; try with_reducible rfl) ?_
        try simp only [s1, s2, s3]
        refine wpAnyH_ready (rs := [4]) (by kernel_rfl) (by simp) ?_
        refine AllReadyH.cons rfl (fun K hK => ?_) AllReadyH.nil
        go_simp
        go_at_call 31
        refine (Hm.out _).mono ?_
        rintro e wz8_1 ⟨rfl, bkz8_1⟩
        have hBn := below_next hBk bkz8_1
        clear hBk bkz8_1
        have hBk := hBn
        clear hBn
        try go_simp
        refine hK.out _ _ ?_ (fun hHeld => ?_)
        · (try dsimp only); exact hBk
        clear hK K
        (try simp only [Act.put, List.setIfInBounds_toArray, List.set_cons_zero, List.set_cons_succ])
        refine tq 5 rfl (fun _ hS => by go_simp; try with_reducible rfl) ?_
        try simp only [s1, s2, s3]
        refine wpAnyH_ready (rs := [8]) (by kernel_rfl) (by simp) ?_
        refine AllReadyH.cons rfl (fun K hK => ?_) AllReadyH.nil
        go_simp
        go_at_call 31
        refine (Ha.out _).mono ?_
        rintro e wz8_2 ⟨rfl, bkz8_2⟩
        have hBn := below_next hBk bkz8_2
        clear hBk bkz8_2
        have hBk := hBn
        clear hBn
        try go_simp
        refine hK.out _ _ ?_ (fun hHeld => ?_)
        · (try dsimp only); exact hBk
        clear hK K
        (try simp only [Act.put, List.setIfInBounds_toArray, List.set_cons_zero, List.set_cons_succ])
        refine tq 9 rfl (fun _ hS => by go_simp; try with_reducible rfl) ?_
        try simp only [s1, s2, s3]
        refine ts 10 rfl ?_
        try simp only [s1, s2, s3]
        refine ts 11 rfl ?_
        try simp only [s1, s2, s3]
        refine ts 12 rfl ?_
        try simp only [s1, s2, s3]
        refine tq 13 rfl (fun _ hS => by go_simp; try with_reducible rfl) ?_
        try simp only [s1, s2, s3]
        refine tq 14 rfl (fun _ hS => by go_simp; try with_reducible rfl) ?_
        try simp only [s1, s2, s3]
        refine tq 15 rfl (fun _ hS => by go_simp; try with_reducible rfl) ?_
        try simp only [s1, s2, s3]
        refine tq 16 rfl (fun _ hS => by go_simp; try with_reducible rfl) ?_
        try simp only [s1, s2, s3]
        refine tq 17 rfl (fun _ hS => by go_simp; try with_reducible rfl) ?_
        try simp only [s1, s2, s3]
        refine tq 18 rfl (fun _ hS => by go_simp; try with_reducible rfl) ?_
        try simp only [s1, s2, s3]
        refine tq 19 rfl (fun _ hS => by have c0 := cn hS JM20; have c1 := cn hS JM21; have c2 := cn hS JM22; have c3 := cn hS JM23; go_simp; try with_reducible rfl) ?_
        try simp only [s1, s2, s3]
        refine tq 20 rfl (fun _ hS => by have c0 := cn hS JA0; have c1 := cn hS JA1; have c2 := cn hS JA2; have c3 := cn hS JA3; go_simp; try with_reducible rfl) ?_
        try simp only [s1, s2, s3]
        refine wpAnyH_ready (rs := [21]) (by kernel_rfl) (by simp) ?_
        refine AllReadyH.cons rfl (fun K hK => ?_) AllReadyH.nil
        go_simp
        go_at_call 30
        refine (Ima.out _).mono ?_
        rintro e wz8_3 ⟨rfl, bkz8_3⟩
        have hBn := below_next hBk bkz8_3
        clear hBk bkz8_3
        have hBk := hBn
        clear hBn
        try go_simp
        refine hK.out _ _ ?_ (fun hHeld => ?_)
        · (try dsimp only); exact hBk
        clear hK K
        (try simp only [Act.put, List.setIfInBounds_toArray, List.set_cons_zero, List.set_cons_succ])
        refine tq 22 rfl (fun _ hS => by go_simp; try with_reducible rfl) ?_
        try simp only [s1, s2, s3]
        refine tq 23 rfl (fun _ hS => by have c0 := cn hS JM20; have c1 := cn hS JM21; have c2 := cn hS JM22; have c3 := cn hS JM23; go_simp; try with_reducible rfl) ?_
        try simp only [s1, s2, s3]
        refine tq 24 rfl (fun _ hS => by have c0 := cn hS JB0; have c1 := cn hS JB1; have c2 := cn hS JB2; have c3 := cn hS JB3; go_simp; try with_reducible rfl) ?_
        try simp only [s1, s2, s3]
        refine wpAnyH_ready (rs := [25]) (by kernel_rfl) (by simp) ?_
        refine AllReadyH.cons rfl (fun K hK => ?_) AllReadyH.nil
        go_simp
        go_at_call 30
        refine (Imb.out _).mono ?_
        rintro e wz8_4 ⟨rfl, bkz8_4⟩
        have hBn := below_next hBk bkz8_4
        clear hBk bkz8_4
        have hBk := hBn
        clear hBn
        try go_simp
        refine hK.out _ _ ?_ (fun hHeld => ?_)
        · (try dsimp only); exact hBk
        clear hK K
        (try simp only [Act.put, List.setIfInBounds_toArray, List.set_cons_zero, List.set_cons_succ])
        refine tq 26 rfl (fun _ hS => by go_simp; try with_reducible rfl) ?_
        try simp only [s1, s2, s3]
        refine tq 27 rfl (fun _ hS => by go_simp; try with_reducible rfl) ?_
        try simp only [s1, s2, s3]
        refine tq 28 rfl (fun _ hS => by go_simp; try with_reducible rfl) ?_
        try simp only [s1, s2, s3]
        refine tq 29 rfl (fun _ hS => by go_simp; try with_reducible rfl) ?_
        try simp only [s1, s2, s3]
        refine wpAnyH_done (by kernel_rfl) ?_ _
        
        clear JA0 JA1 JA2 JA3 JAl JB0 JB1 JB2 JB3 JBl JC0 JC1 JC2 JC3 JCl JJ0 JJ1 JJ2 JJ3 JJl JM20 JM21 JM22 JM23 JM2l lb
        generalize wz8_4 = w13 at hBk ⊢
        replace JA := JA.below hBk
        replace JB := JB.below hBk
        replace JC := JC.below hBk
        replace JJ := JJ.below hBk
        replace JM2 := JM2.below hBk
        replace B := below_next B hBk
        clear hBk
        go_wp2
        go_ret
        exact ⟨rfl, B⟩
  · skip
    rcases (show an = true ∨ an = false by cases an <;> simp) with rfl | rfl
    · skip
      rcases (show bn = true ∨ bn = false by cases bn <;> simp) with rfl | rfl
      · skip
        exact absurd mn.out (by simp)
      · skip
        as_aux_lemma =>
          have JA0 := JA.c0
          have JA1 := JA.c1
          have JA2 := JA.c2
          have JA3 := JA.c3
          have JAl := JA.lt
          have JB0 := JB.c0
          have JB1 := JB.c1
          have JB2 := JB.c2
          have JB3 := JB.c3
          have JBl := JB.lt
          have JC0 := JC.c0
          have JC1 := JC.c1
          have JC2 := JC.c2
          have JC3 := JC.c3
          have JCl := JC.lt
          have JJ0 := JJ.c0
          have JJ1 := JJ.c1
          have JJ2 := JJ.c2
          have JJ3 := JJ.c3
          have JJl := JJ.lt
          have lb := B.size
          go_wp2_with fail
          clear JA0 JA1 JA2 JA3 JAl JB0 JB1 JB2 JB3 JBl JC0 JC1 JC2 JC3 JCl JJ0 JJ1 JJ2 JJ3 JJl lb
          have JM2 : SC (w11.alloc (.cells #[.int .u64 (ub M0.1.1), .int .u64 (ub M0.1.2), .int .u64 (ub M0.2.1), .int .u64 (ub M0.2.2)] 28)) w11.heap.size M0 := SC.new rfl
          have gq11JA : g < w11.heap.size := JA.lt
          replace JA := JA.alloc (.cells #[.int .u64 (ub M0.1.1), .int .u64 (ub M0.1.2), .int .u64 (ub M0.2.1), .int .u64 (ub M0.2.2)] 28)
          have gq11JB : h < w11.heap.size := JB.lt
          replace JB := JB.alloc (.cells #[.int .u64 (ub M0.1.1), .int .u64 (ub M0.1.2), .int .u64 (ub M0.2.1), .int .u64 (ub M0.2.2)] 28)
          have gq11JC : w.heap.size + 1 < w11.heap.size := JC.lt
          replace JC := JC.alloc (.cells #[.int .u64 (ub M0.1.1), .int .u64 (ub M0.1.2), .int .u64 (ub M0.2.1), .int .u64 (ub M0.2.2)] 28)
          have gq11JJ : w7.heap.size < w11.heap.size := JJ.lt
          replace JJ := JJ.alloc (.cells #[.int .u64 (ub M0.1.1), .int .u64 (ub M0.1.2), .int .u64 (ub M0.2.1), .int .u64 (ub M0.2.2)] 28)
          replace B := bel_alloc (o := (.cells #[.int .u64 (ub M0.1.1), .int .u64 (ub M0.1.2), .int .u64 (ub M0.2.1), .int .u64 (ub M0.2.2)] 28)) B
          generalize w11.alloc (.cells #[.int .u64 (ub M0.1.1), .int .u64 (ub M0.1.2), .int .u64 (ub M0.2.1), .int .u64 (ub M0.2.2)] 28) = w12 at *
          have JA0 := JA.c0
          have JA1 := JA.c1
          have JA2 := JA.c2
          have JA3 := JA.c3
          have JAl := JA.lt
          have JB0 := JB.c0
          have JB1 := JB.c1
          have JB2 := JB.c2
          have JB3 := JB.c3
          have JBl := JB.lt
          have JC0 := JC.c0
          have JC1 := JC.c1
          have JC2 := JC.c2
          have JC3 := JC.c3
          have JCl := JC.lt
          have JJ0 := JJ.c0
          have JJ1 := JJ.c1
          have JJ2 := JJ.c2
          have JJ3 := JJ.c3
          have JJl := JJ.lt
          have JM20 := JM2.c0
          have JM21 := JM2.c1
          have JM22 := JM2.c2
          have JM23 := JM2.c3
          have JM2l := JM2.lt
          have lb := B.size
          go_wp2_with fail
          refine wp_region_held_drew (S := (fun w' : World => Below w12.heap.size w12 w')) (by kernel_rfl) ?_ (fun hHeld => ?_)
          · (try dsimp only); first | (with_reducible exact below_dr _) | (with_reducible exact Below.refl _ _) | exact below_dr _
          have hBk := below_dr w12
          refine tq 0 rfl (fun _ hS => by go_simp; try with_reducible rfl) ?_
          try simp only [s1, s2, s3]
          refine tq 1 rfl (fun _ hS => by go_simp; try with_reducible rfl) ?_
          try simp only [s1, s2, s3]
          refine ts 2 rfl ?_
          try simp only [s1, s2, s3]
          refine ts 3 rfl ?_
          try simp only [s1, s2, s3]
          refine ts 4 rfl ?_
          try simp only [s1, s2, s3]
          refine tq 5 rfl (fun _ hS => by go_simp; try with_reducible rfl) ?_
          try simp only [s1, s2, s3]
          refine tq 6 rfl (fun _ hS => by have c0 := cn hS JA0; have c1 := cn hS JA1; have c2 := cn hS JA2; have c3 := cn hS JA3; go_simp; try with_reducible rfl) ?_
          try simp only [s1, s2, s3]
          refine tq 7 rfl (fun _ hS => by go_simp; try with_reducible rfl) ?_
          try simp only [s1, s2, s3]
          refine wpAnyH_ready (rs := [8]) (by kernel_rfl) (by simp) ?_
          refine AllReadyH.cons rfl (fun K hK => ?_) AllReadyH.nil
          go_simp
          go_at_call 31
          refine (Ha.out _).mono ?_
          rintro e wz9_1 ⟨rfl, bkz9_1⟩
          have hBn := below_next hBk bkz9_1
          clear hBk bkz9_1
          have hBk := hBn
          clear hBn
          try go_simp
          refine hK.out _ _ ?_ (fun hHeld => ?_)
          · (try dsimp only); exact hBk
          clear hK K
          (try simp only [Act.put, List.setIfInBounds_toArray, List.set_cons_zero, List.set_cons_succ])
          refine tq 9 rfl (fun _ hS => by go_simp; try with_reducible rfl) ?_
          try simp only [s1, s2, s3]
          refine tq 10 rfl (fun _ hS => by have c0 := cn hS JB0; have c1 := cn hS JB1; have c2 := cn hS JB2; have c3 := cn hS JB3; go_simp; try with_reducible rfl) ?_
          try simp only [s1, s2, s3]
          refine tq 11 rfl (fun _ hS => by go_simp; try with_reducible rfl) ?_
          try simp only [s1, s2, s3]
          refine wpAnyH_ready (rs := [12]) (by kernel_rfl) (by simp) ?_
          refine AllReadyH.cons rfl (fun K hK => ?_) AllReadyH.nil
          go_simp
          go_at_call 31
          refine (Hb.out _).mono ?_
          rintro e wz9_2 ⟨rfl, bkz9_2⟩
          have hBn := below_next hBk bkz9_2
          clear hBk bkz9_2
          have hBk := hBn
          clear hBn
          try go_simp
          refine hK.out _ _ ?_ (fun hHeld => ?_)
          · (try dsimp only); exact hBk
          clear hK K
          (try simp only [Act.put, List.setIfInBounds_toArray, List.set_cons_zero, List.set_cons_succ])
          refine tq 13 rfl (fun _ hS => by go_simp; try with_reducible rfl) ?_
          try simp only [s1, s2, s3]
          refine tq 14 rfl (fun _ hS => by go_simp; try with_reducible rfl) ?_
          try simp only [s1, s2, s3]
          refine tq 15 rfl (fun _ hS => by go_simp; try with_reducible rfl) ?_
          try simp only [s1, s2, s3]
          refine tq 16 rfl (fun _ hS => by go_simp; try with_reducible rfl) ?_
          try simp only [s1, s2, s3]
          refine tq 17 rfl (fun _ hS => by go_simp; try with_reducible rfl) ?_
          try simp only [s1, s2, s3]
          refine tq 18 rfl (fun _ hS => by go_simp; try with_reducible rfl) ?_
          try simp only [s1, s2, s3]
          refine ts 19 rfl ?_
          try simp only [s1, s2, s3]
          refine ts 20 rfl ?_
          try simp only [s1, s2, s3]
          refine ts 21 rfl ?_
          try simp only [s1, s2, s3]
          refine ts 22 rfl ?_
          try simp only [s1, s2, s3]
          refine ts 23 rfl ?_
          try simp only [s1, s2, s3]
          refine ts 24 rfl ?_
          try simp only [s1, s2, s3]
          refine ts 25 rfl ?_
          try simp only [s1, s2, s3]
          refine ts 26 rfl ?_
          try simp only [s1, s2, s3]
          refine tq 27 rfl (fun _ hS => by go_simp; try with_reducible rfl) ?_
          try simp only [s1, s2, s3]
          refine tq 28 rfl (fun _ hS => by go_simp; try with_reducible rfl) ?_
          try simp only [s1, s2, s3]
          refine tq 29 rfl (fun _ hS => by go_simp; try with_reducible rfl) ?_
          try simp only [s1, s2, s3]
          refine wpAnyH_done (by kernel_rfl) ?_ _
          
          clear JA0 JA1 JA2 JA3 JAl JB0 JB1 JB2 JB3 JBl JC0 JC1 JC2 JC3 JCl JJ0 JJ1 JJ2 JJ3 JJl JM20 JM21 JM22 JM23 JM2l lb
          generalize wz9_2 = w13 at hBk ⊢
          replace JA := JA.below hBk
          replace JB := JB.below hBk
          replace JC := JC.below hBk
          replace JJ := JJ.below hBk
          replace JM2 := JM2.below hBk
          replace B := below_next B hBk
          clear hBk
          go_wp2
          go_ret
          exact ⟨rfl, B⟩
    · skip
      as_aux_lemma =>
        have JA0 := JA.c0
        have JA1 := JA.c1
        have JA2 := JA.c2
        have JA3 := JA.c3
        have JAl := JA.lt
        have JB0 := JB.c0
        have JB1 := JB.c1
        have JB2 := JB.c2
        have JB3 := JB.c3
        have JBl := JB.lt
        have JC0 := JC.c0
        have JC1 := JC.c1
        have JC2 := JC.c2
        have JC3 := JC.c3
        have JCl := JC.lt
        have JJ0 := JJ.c0
        have JJ1 := JJ.c1
        have JJ2 := JJ.c2
        have JJ3 := JJ.c3
        have JJl := JJ.lt
        have lb := B.size
        go_wp2_with fail
        clear JA0 JA1 JA2 JA3 JAl JB0 JB1 JB2 JB3 JBl JC0 JC1 JC2 JC3 JCl JJ0 JJ1 JJ2 JJ3 JJl lb
        have JM2 : SC (w11.alloc (.cells #[.int .u64 (ub M0.1.1), .int .u64 (ub M0.1.2), .int .u64 (ub M0.2.1), .int .u64 (ub M0.2.2)] 28)) w11.heap.size M0 := SC.new rfl
        have gq11JA : g < w11.heap.size := JA.lt
        replace JA := JA.alloc (.cells #[.int .u64 (ub M0.1.1), .int .u64 (ub M0.1.2), .int .u64 (ub M0.2.1), .int .u64 (ub M0.2.2)] 28)
        have gq11JB : h < w11.heap.size := JB.lt
        replace JB := JB.alloc (.cells #[.int .u64 (ub M0.1.1), .int .u64 (ub M0.1.2), .int .u64 (ub M0.2.1), .int .u64 (ub M0.2.2)] 28)
        have gq11JC : w.heap.size + 1 < w11.heap.size := JC.lt
        replace JC := JC.alloc (.cells #[.int .u64 (ub M0.1.1), .int .u64 (ub M0.1.2), .int .u64 (ub M0.2.1), .int .u64 (ub M0.2.2)] 28)
        have gq11JJ : w7.heap.size < w11.heap.size := JJ.lt
        replace JJ := JJ.alloc (.cells #[.int .u64 (ub M0.1.1), .int .u64 (ub M0.1.2), .int .u64 (ub M0.2.1), .int .u64 (ub M0.2.2)] 28)
        replace B := bel_alloc (o := (.cells #[.int .u64 (ub M0.1.1), .int .u64 (ub M0.1.2), .int .u64 (ub M0.2.1), .int .u64 (ub M0.2.2)] 28)) B
        generalize w11.alloc (.cells #[.int .u64 (ub M0.1.1), .int .u64 (ub M0.1.2), .int .u64 (ub M0.2.1), .int .u64 (ub M0.2.2)] 28) = w12 at *
        have JA0 := JA.c0
        have JA1 := JA.c1
        have JA2 := JA.c2
        have JA3 := JA.c3
        have JAl := JA.lt
        have JB0 := JB.c0
        have JB1 := JB.c1
        have JB2 := JB.c2
        have JB3 := JB.c3
        have JBl := JB.lt
        have JC0 := JC.c0
        have JC1 := JC.c1
        have JC2 := JC.c2
        have JC3 := JC.c3
        have JCl := JC.lt
        have JJ0 := JJ.c0
        have JJ1 := JJ.c1
        have JJ2 := JJ.c2
        have JJ3 := JJ.c3
        have JJl := JJ.lt
        have JM20 := JM2.c0
        have JM21 := JM2.c1
        have JM22 := JM2.c2
        have JM23 := JM2.c3
        have JM2l := JM2.lt
        have lb := B.size
        go_wp2_with fail
        refine wp_region_held_drew (S := (fun w' : World => Below w12.heap.size w12 w')) (by kernel_rfl) ?_ (fun hHeld => ?_)
        · (try dsimp only); first | (with_reducible exact below_dr _) | (with_reducible exact Below.refl _ _) | exact below_dr _
        have hBk := below_dr w12
        refine tq 0 rfl (fun _ hS => by go_simp; try with_reducible rfl) ?_
        try simp only [s1, s2, s3]
        refine tq 1 rfl (fun _ hS => by go_simp; try with_reducible rfl) ?_
        try simp only [s1, s2, s3]
        refine ts 2 rfl ?_
        try simp only [s1, s2, s3]
        refine ts 3 rfl ?_
        try simp only [s1, s2, s3]
        refine ts 4 rfl ?_
        try simp only [s1, s2, s3]
        refine tq 5 rfl (fun _ hS => by go_simp; try with_reducible rfl) ?_
        try simp only [s1, s2, s3]
        refine tq 6 rfl (fun _ hS => by have c0 := cn hS JA0; have c1 := cn hS JA1; have c2 := cn hS JA2; have c3 := cn hS JA3; go_simp; try with_reducible rfl) ?_
        try simp only [s1, s2, s3]
        refine tq 7 rfl (fun _ hS => by go_simp; try with_reducible rfl) ?_
        try simp only [s1, s2, s3]
        refine wpAnyH_ready (rs := [8]) (by kernel_rfl) (by simp) ?_
        refine AllReadyH.cons rfl (fun K hK => ?_) AllReadyH.nil
        go_simp
        go_at_call 31
        refine (Ha.out _).mono ?_
        rintro e wz10_1 ⟨rfl, bkz10_1⟩
        have hBn := below_next hBk bkz10_1
        clear hBk bkz10_1
        have hBk := hBn
        clear hBn
        try go_simp
        refine hK.out _ _ ?_ (fun hHeld => ?_)
        · (try dsimp only); exact hBk
        clear hK K
        (try simp only [Act.put, List.setIfInBounds_toArray, List.set_cons_zero, List.set_cons_succ])
        refine tq 9 rfl (fun _ hS => by go_simp; try with_reducible rfl) ?_
        try simp only [s1, s2, s3]
        refine ts 10 rfl ?_
        try simp only [s1, s2, s3]
        refine ts 11 rfl ?_
        try simp only [s1, s2, s3]
        refine ts 12 rfl ?_
        try simp only [s1, s2, s3]
        refine tq 13 rfl (fun _ hS => by go_simp; try with_reducible rfl) ?_
        try simp only [s1, s2, s3]
        refine tq 14 rfl (fun _ hS => by go_simp; try with_reducible rfl) ?_
        try simp only [s1, s2, s3]
        refine tq 15 rfl (fun _ hS => by go_simp; try with_reducible rfl) ?_
        try simp only [s1, s2, s3]
        refine tq 16 rfl (fun _ hS => by go_simp; try with_reducible rfl) ?_
        try simp only [s1, s2, s3]
        refine tq 17 rfl (fun _ hS => by go_simp; try with_reducible rfl) ?_
        try simp only [s1, s2, s3]
        refine tq 18 rfl (fun _ hS => by go_simp; try with_reducible rfl) ?_
        try simp only [s1, s2, s3]
        refine ts 19 rfl ?_
        try simp only [s1, s2, s3]
        refine ts 20 rfl ?_
        try simp only [s1, s2, s3]
        refine ts 21 rfl ?_
        try simp only [s1, s2, s3]
        refine ts 22 rfl ?_
        try simp only [s1, s2, s3]
        refine ts 23 rfl ?_
        try simp only [s1, s2, s3]
        refine ts 24 rfl ?_
        try simp only [s1, s2, s3]
        refine ts 25 rfl ?_
        try simp only [s1, s2, s3]
        refine ts 26 rfl ?_
        try simp only [s1, s2, s3]
        refine tq 27 rfl (fun _ hS => by go_simp; try with_reducible rfl) ?_
        try simp only [s1, s2, s3]
        refine tq 28 rfl (fun _ hS => by go_simp; try with_reducible rfl) ?_
        try simp only [s1, s2, s3]
        refine tq 29 rfl (fun _ hS => by go_simp; try with_reducible rfl) ?_
        try simp only [s1, s2, s3]
        refine wpAnyH_done (by kernel_rfl) ?_ _
        
        clear JA0 JA1 JA2 JA3 JAl JB0 JB1 JB2 JB3 JBl JC0 JC1 JC2 JC3 JCl JJ0 JJ1 JJ2 JJ3 JJl JM20 JM21 JM22 JM23 JM2l lb
        generalize wz10_1 = w13 at hBk ⊢
        replace JA := JA.below hBk
        replace JB := JB.below hBk
        replace JC := JC.below hBk
        replace JJ := JJ.below hBk
        replace JM2 := JM2.below hBk
        replace B := below_next B hBk
        clear hBk
        go_wp2
        go_ret
        exact ⟨rfl, B⟩
end Go.Proofs.Ytoanbjnhoggpjaa
