/-
  ScalarOrder: the law's walk.
-/
import Derived.Test.YtoanbjnhoggpjaaHSoJ
import Derived.Test.YtoanbjnhoggpjaaHScR
import Derived.Test.YtoanbjnhoggpjaaHScZ
import Derived.Test.YtoanbjnhoggpjaaHHrU
import Derived.Deep.RegionHeld3
namespace Go.Proofs.Ytoanbjnhoggpjaa
set_option linter.unusedSimpArgs false
set_option linter.unusedVariables false
set_option maxRecDepth 100000
open Go.ChangeShapes Go.WideShapes Go.ChangeAt Go.RowKit

theorem two_boxes {w : World} (x y : Sc) (o1 o2 : Obj) (h1 : o1 = (.cells #[.int .u64 (ub x.1.1), .int .u64 (ub x.1.2), .int .u64 (ub x.2.1), .int .u64 (ub x.2.2)] 28)) (h2 : o2 = (.cells #[.int .u64 (ub y.1.1), .int .u64 (ub y.1.2), .int .u64 (ub y.2.1), .int .u64 (ub y.2.2)] 28)) : SC ((w.alloc o1).alloc o2).drew w.heap.size x ∧ SC ((w.alloc o1).alloc o2).drew (w.heap.size + 1) y := by
  subst h1 h2
  exact ⟨((SC.new rfl).alloc _).below (below_dr _), (SC.new (by simp)).below (below_dr _)⟩
set_option maxHeartbeats 8000000 in
theorem order_a (op : Int) (d : Bool) (a b c : Sc) (x : B64) (ha : mayX a = false) (w : World) : Calls Try.prog 8 #[sumV op d a b, sv c, .int .u64 (ub x)] w fun e w' => e = .returned (.bool true) ∧ Below w.heap.size w w' := by
  have X0 := fun W => awake_true W
  replace X0 := hid X0
  have XA : ∀ W, Calls Try.prog 29 #[sv a] W fun e w' => e = .returned (.bool (mayX a)) ∧ Below W.heap.size W w' := fun W => cMay_any a W
  have XI : ∀ W, Calls Try.prog 30 #[sv a, sv a] W fun e w' => e = .returned (.bool (inX a a)) ∧ Below W.heap.size W w' := fun W => cIn_any a a W
  have XH : ∀ W, Calls Try.prog 31 #[sv a, .int .u64 (ub x)] W fun e w' => e = .returned (.bool (hasX a x)) ∧ Below W.heap.size W w' := fun W => cHas_any a x W
  rw [show inX a a = false from by unfold inX; rw [ha]; rfl] at XI
  rw [show hasX a x = false from by unfold hasX; rw [ha]; rfl] at XH
  rw [ha] at XA
  unfold sv at XA XI XH
  replace XA := hid XA
  replace XI := hid XI
  replace XH := hid XH
  unfold sumV sv
  go_enter Try.func8, Try.ntmps8
  go_wp2_with fail
  have JM : SmC ((w.alloc (.cells #[.int .i64 op, .bool d, .int .u64 (ub a.1.1), .int .u64 (ub a.1.2), .int .u64 (ub a.2.1), .int .u64 (ub a.2.2), .int .u64 (ub b.1.1), .int .u64 (ub b.1.2), .int .u64 (ub b.2.1), .int .u64 (ub b.2.2)] 63)).alloc (.cells #[.int .u64 (ub c.1.1), .int .u64 (ub c.1.2), .int .u64 (ub c.2.1), .int .u64 (ub c.2.2)] 28)) (w.heap.size) op d a b := ((SmC.new rfl).alloc _)
  have JC : SC ((w.alloc (.cells #[.int .i64 op, .bool d, .int .u64 (ub a.1.1), .int .u64 (ub a.1.2), .int .u64 (ub a.2.1), .int .u64 (ub a.2.2), .int .u64 (ub b.1.1), .int .u64 (ub b.1.2), .int .u64 (ub b.2.1), .int .u64 (ub b.2.2)] 63)).alloc (.cells #[.int .u64 (ub c.1.1), .int .u64 (ub c.1.2), .int .u64 (ub c.2.1), .int .u64 (ub c.2.2)] 28)) (w.heap.size + 1) c := (SC.new (x := c) (by simp))
  have B : Below w.heap.size w ((w.alloc (.cells #[.int .i64 op, .bool d, .int .u64 (ub a.1.1), .int .u64 (ub a.1.2), .int .u64 (ub a.2.1), .int .u64 (ub a.2.2), .int .u64 (ub b.1.1), .int .u64 (ub b.1.2), .int .u64 (ub b.2.1), .int .u64 (ub b.2.2)] 63)).alloc (.cells #[.int .u64 (ub c.1.1), .int .u64 (ub c.1.2), .int .u64 (ub c.2.1), .int .u64 (ub c.2.2)] 28)) := (bel_alloc (bel_alloc (Below.refl _ _)))
  generalize ((w.alloc (.cells #[.int .i64 op, .bool d, .int .u64 (ub a.1.1), .int .u64 (ub a.1.2), .int .u64 (ub a.2.1), .int .u64 (ub a.2.2), .int .u64 (ub b.1.1), .int .u64 (ub b.1.2), .int .u64 (ub b.2.1), .int .u64 (ub b.2.2)] 63)).alloc (.cells #[.int .u64 (ub c.1.1), .int .u64 (ub c.1.2), .int .u64 (ub c.2.1), .int .u64 (ub c.2.2)] 28)) = w00 at *
  have JM0 := JM.c0
  have JM1 := JM.c1
  have JM2 := JM.c2
  have JM3 := JM.c3
  have JM4 := JM.c4
  have JM5 := JM.c5
  have JM6 := JM.c6
  have JM7 := JM.c7
  have JM8 := JM.c8
  have JM9 := JM.c9
  have JMl := JM.lt
  have JC0 := JC.c0
  have JC1 := JC.c1
  have JC2 := JC.c2
  have JC3 := JC.c3
  have JCl := JC.lt
  have lb := B.size
  go_wp2_with fail
  refine (X0.out _).mono ?_
  rintro e w1 ⟨rfl, z⟩
  clear JM0 JM1 JM2 JM3 JM4 JM5 JM6 JM7 JM8 JM9 JMl JC0 JC1 JC2 JC3 JCl lb
  replace JM := JM.below z
  replace JC := JC.below z
  replace B := below_next B z
  clear z
  have JM0 := JM.c0
  have JM1 := JM.c1
  have JM2 := JM.c2
  have JM3 := JM.c3
  have JM4 := JM.c4
  have JM5 := JM.c5
  have JM6 := JM.c6
  have JM7 := JM.c7
  have JM8 := JM.c8
  have JM9 := JM.c9
  have JMl := JM.lt
  have JC0 := JC.c0
  have JC1 := JC.c1
  have JC2 := JC.c2
  have JC3 := JC.c3
  have JCl := JC.lt
  have lb := B.size
  go_wp2_with fail
  clear JM0 JM1 JM2 JM3 JM4 JM5 JM6 JM7 JM8 JM9 JMl JC0 JC1 JC2 JC3 JCl lb
  have JM0 := JM.c0
  have JM1 := JM.c1
  have JM2 := JM.c2
  have JM3 := JM.c3
  have JM4 := JM.c4
  have JM5 := JM.c5
  have JM6 := JM.c6
  have JM7 := JM.c7
  have JM8 := JM.c8
  have JM9 := JM.c9
  have JMl := JM.lt
  have JC0 := JC.c0
  have JC1 := JC.c1
  have JC2 := JC.c2
  have JC3 := JC.c3
  have JCl := JC.lt
  have ld := B.size
  apply cutGG (F := fun g h W' => SC W' g a ∧ SC W' h b ∧ SmC W' (w.heap.size) op d a b ∧ SC W' (w.heap.size + 1) c ∧ Below w.heap.size w W')
  · go_region
    all_goals
      obtain ⟨h, hh⟩ : ∃ h, w1.heap.size + 1 = h := ⟨_, rfl⟩
      obtain ⟨g, hg⟩ : ∃ g, w1.heap.size = g := ⟨_, rfl⟩
      first
        | (refine ⟨g, h, ⟨?_, ?_, ((JM.alloc _).alloc _).below (below_dr _), ((JC.alloc _).alloc _).below (below_dr _), below_next (bel_alloc (bel_alloc B)) (below_dr _)⟩, ?_⟩
           · rw [← hg]; exact (two_boxes a b _ _ rfl rfl).1
           · rw [← hh]; exact (two_boxes a b _ _ rfl rfl).2
           · rw [hh, hg])
        | (refine ⟨h, g, ⟨?_, ?_, ((JM.alloc _).alloc _).below (below_dr _), ((JC.alloc _).alloc _).below (below_dr _), below_next (bel_alloc (bel_alloc B)) (below_dr _)⟩, ?_⟩
           · rw [← hh]; exact (two_boxes b a _ _ rfl rfl).2
           · rw [← hg]; exact (two_boxes b a _ _ rfl rfl).1
           · rw [hh, hg])
  clear JM0 JM1 JM2 JM3 JM4 JM5 JM6 JM7 JM8 JM9 JC0 JC1 JC2 JC3 JMl JCl ld JM JC B
  intro g h w2 ⟨JA, JB, _, JC, B⟩
  have JA0 := JA.c0
  have JA1 := JA.c1
  have JA2 := JA.c2
  have JA3 := JA.c3
  have JAl := JA.lt
  have JB0 := JB.c0
  have JB1 := JB.c1
  have JB2 := JB.c2
  have JB3 := JB.c3
  have JBl := JB.lt
  have JC0 := JC.c0
  have JC1 := JC.c1
  have JC2 := JC.c2
  have JC3 := JC.c3
  have JCl := JC.lt
  have lb := B.size
  go_wp2_with fail
  refine (XA.out _).mono ?_
  rintro e w3 ⟨rfl, z⟩
  clear JA0 JA1 JA2 JA3 JAl JB0 JB1 JB2 JB3 JBl JC0 JC1 JC2 JC3 JCl lb
  replace JA := JA.below z
  replace JB := JB.below z
  replace JC := JC.below z
  replace B := below_next B z
  clear z
  have JA0 := JA.c0
  have JA1 := JA.c1
  have JA2 := JA.c2
  have JA3 := JA.c3
  have JAl := JA.lt
  have JB0 := JB.c0
  have JB1 := JB.c1
  have JB2 := JB.c2
  have JB3 := JB.c3
  have JBl := JB.lt
  have JC0 := JC.c0
  have JC1 := JC.c1
  have JC2 := JC.c2
  have JC3 := JC.c3
  have JCl := JC.lt
  have lb := B.size
  go_wp2_with fail
  refine (XA.out _).mono ?_
  rintro e w4 ⟨rfl, z⟩
  clear JA0 JA1 JA2 JA3 JAl JB0 JB1 JB2 JB3 JBl JC0 JC1 JC2 JC3 JCl lb
  replace JA := JA.below z
  replace JB := JB.below z
  replace JC := JC.below z
  replace B := below_next B z
  clear z
  have JA0 := JA.c0
  have JA1 := JA.c1
  have JA2 := JA.c2
  have JA3 := JA.c3
  have JAl := JA.lt
  have JB0 := JB.c0
  have JB1 := JB.c1
  have JB2 := JB.c2
  have JB3 := JB.c3
  have JBl := JB.lt
  have JC0 := JC.c0
  have JC1 := JC.c1
  have JC2 := JC.c2
  have JC3 := JC.c3
  have JCl := JC.lt
  have lb := B.size
  go_wp2_with fail
  refine (XI.out _).mono ?_
  rintro e w5 ⟨rfl, z⟩
  clear JA0 JA1 JA2 JA3 JAl JB0 JB1 JB2 JB3 JBl JC0 JC1 JC2 JC3 JCl lb
  replace JA := JA.below z
  replace JB := JB.below z
  replace JC := JC.below z
  replace B := below_next B z
  clear z
  have JA0 := JA.c0
  have JA1 := JA.c1
  have JA2 := JA.c2
  have JA3 := JA.c3
  have JAl := JA.lt
  have JB0 := JB.c0
  have JB1 := JB.c1
  have JB2 := JB.c2
  have JB3 := JB.c3
  have JBl := JB.lt
  have JC0 := JC.c0
  have JC1 := JC.c1
  have JC2 := JC.c2
  have JC3 := JC.c3
  have JCl := JC.lt
  have lb := B.size
  go_wp2_with fail
  refine (XH.out _).mono ?_
  rintro e w6 ⟨rfl, z⟩
  clear JA0 JA1 JA2 JA3 JAl JB0 JB1 JB2 JB3 JBl JC0 JC1 JC2 JC3 JCl lb
  replace JA := JA.below z
  replace JB := JB.below z
  replace JC := JC.below z
  replace B := below_next B z
  clear z
  have JA0 := JA.c0
  have JA1 := JA.c1
  have JA2 := JA.c2
  have JA3 := JA.c3
  have JAl := JA.lt
  have JB0 := JB.c0
  have JB1 := JB.c1
  have JB2 := JB.c2
  have JB3 := JB.c3
  have JBl := JB.lt
  have JC0 := JC.c0
  have JC1 := JC.c1
  have JC2 := JC.c2
  have JC3 := JC.c3
  have JCl := JC.lt
  have lb := B.size
  go_wp2
  go_ret
  exact ⟨rfl, B⟩
set_option maxHeartbeats 8000000 in
theorem order_b (op : Int) (d : Bool) (a b c : Sc) (x : B64) (ha : mayX a = true) (hb : mayX b = false) (w : World) : Calls Try.prog 8 #[sumV op d a b, sv c, .int .u64 (ub x)] w fun e w' => e = .returned (.bool true) ∧ Below w.heap.size w w' := by
  have X0 := fun W => awake_true W
  replace X0 := hid X0
  have XA : ∀ W, Calls Try.prog 29 #[sv a] W fun e w' => e = .returned (.bool (mayX a)) ∧ Below W.heap.size W w' := fun W => cMay_any a W
  have XB : ∀ W, Calls Try.prog 29 #[sv b] W fun e w' => e = .returned (.bool (mayX b)) ∧ Below W.heap.size W w' := fun W => cMay_any b W
  rw [ha] at XA
  rw [hb] at XB
  unfold sv at XA XB
  replace XA := hid XA
  replace XB := hid XB
  unfold sumV sv
  go_enter Try.func8, Try.ntmps8
  go_wp2_with fail
  have JM : SmC ((w.alloc (.cells #[.int .i64 op, .bool d, .int .u64 (ub a.1.1), .int .u64 (ub a.1.2), .int .u64 (ub a.2.1), .int .u64 (ub a.2.2), .int .u64 (ub b.1.1), .int .u64 (ub b.1.2), .int .u64 (ub b.2.1), .int .u64 (ub b.2.2)] 63)).alloc (.cells #[.int .u64 (ub c.1.1), .int .u64 (ub c.1.2), .int .u64 (ub c.2.1), .int .u64 (ub c.2.2)] 28)) (w.heap.size) op d a b := ((SmC.new rfl).alloc _)
  have JC : SC ((w.alloc (.cells #[.int .i64 op, .bool d, .int .u64 (ub a.1.1), .int .u64 (ub a.1.2), .int .u64 (ub a.2.1), .int .u64 (ub a.2.2), .int .u64 (ub b.1.1), .int .u64 (ub b.1.2), .int .u64 (ub b.2.1), .int .u64 (ub b.2.2)] 63)).alloc (.cells #[.int .u64 (ub c.1.1), .int .u64 (ub c.1.2), .int .u64 (ub c.2.1), .int .u64 (ub c.2.2)] 28)) (w.heap.size + 1) c := (SC.new (x := c) (by simp))
  have B : Below w.heap.size w ((w.alloc (.cells #[.int .i64 op, .bool d, .int .u64 (ub a.1.1), .int .u64 (ub a.1.2), .int .u64 (ub a.2.1), .int .u64 (ub a.2.2), .int .u64 (ub b.1.1), .int .u64 (ub b.1.2), .int .u64 (ub b.2.1), .int .u64 (ub b.2.2)] 63)).alloc (.cells #[.int .u64 (ub c.1.1), .int .u64 (ub c.1.2), .int .u64 (ub c.2.1), .int .u64 (ub c.2.2)] 28)) := (bel_alloc (bel_alloc (Below.refl _ _)))
  generalize ((w.alloc (.cells #[.int .i64 op, .bool d, .int .u64 (ub a.1.1), .int .u64 (ub a.1.2), .int .u64 (ub a.2.1), .int .u64 (ub a.2.2), .int .u64 (ub b.1.1), .int .u64 (ub b.1.2), .int .u64 (ub b.2.1), .int .u64 (ub b.2.2)] 63)).alloc (.cells #[.int .u64 (ub c.1.1), .int .u64 (ub c.1.2), .int .u64 (ub c.2.1), .int .u64 (ub c.2.2)] 28)) = w00 at *
  have JM0 := JM.c0
  have JM1 := JM.c1
  have JM2 := JM.c2
  have JM3 := JM.c3
  have JM4 := JM.c4
  have JM5 := JM.c5
  have JM6 := JM.c6
  have JM7 := JM.c7
  have JM8 := JM.c8
  have JM9 := JM.c9
  have JMl := JM.lt
  have JC0 := JC.c0
  have JC1 := JC.c1
  have JC2 := JC.c2
  have JC3 := JC.c3
  have JCl := JC.lt
  have lb := B.size
  go_wp2_with fail
  refine (X0.out _).mono ?_
  rintro e w1 ⟨rfl, z⟩
  clear JM0 JM1 JM2 JM3 JM4 JM5 JM6 JM7 JM8 JM9 JMl JC0 JC1 JC2 JC3 JCl lb
  replace JM := JM.below z
  replace JC := JC.below z
  replace B := below_next B z
  clear z
  have JM0 := JM.c0
  have JM1 := JM.c1
  have JM2 := JM.c2
  have JM3 := JM.c3
  have JM4 := JM.c4
  have JM5 := JM.c5
  have JM6 := JM.c6
  have JM7 := JM.c7
  have JM8 := JM.c8
  have JM9 := JM.c9
  have JMl := JM.lt
  have JC0 := JC.c0
  have JC1 := JC.c1
  have JC2 := JC.c2
  have JC3 := JC.c3
  have JCl := JC.lt
  have lb := B.size
  go_wp2_with fail
  clear JM0 JM1 JM2 JM3 JM4 JM5 JM6 JM7 JM8 JM9 JMl JC0 JC1 JC2 JC3 JCl lb
  have JM0 := JM.c0
  have JM1 := JM.c1
  have JM2 := JM.c2
  have JM3 := JM.c3
  have JM4 := JM.c4
  have JM5 := JM.c5
  have JM6 := JM.c6
  have JM7 := JM.c7
  have JM8 := JM.c8
  have JM9 := JM.c9
  have JMl := JM.lt
  have JC0 := JC.c0
  have JC1 := JC.c1
  have JC2 := JC.c2
  have JC3 := JC.c3
  have JCl := JC.lt
  have ld := B.size
  apply cutGG (F := fun g h W' => SC W' g a ∧ SC W' h b ∧ SmC W' (w.heap.size) op d a b ∧ SC W' (w.heap.size + 1) c ∧ Below w.heap.size w W')
  · go_region
    all_goals
      obtain ⟨h, hh⟩ : ∃ h, w1.heap.size + 1 = h := ⟨_, rfl⟩
      obtain ⟨g, hg⟩ : ∃ g, w1.heap.size = g := ⟨_, rfl⟩
      first
        | (refine ⟨g, h, ⟨?_, ?_, ((JM.alloc _).alloc _).below (below_dr _), ((JC.alloc _).alloc _).below (below_dr _), below_next (bel_alloc (bel_alloc B)) (below_dr _)⟩, ?_⟩
           · rw [← hg]; exact (two_boxes a b _ _ rfl rfl).1
           · rw [← hh]; exact (two_boxes a b _ _ rfl rfl).2
           · rw [hh, hg])
        | (refine ⟨h, g, ⟨?_, ?_, ((JM.alloc _).alloc _).below (below_dr _), ((JC.alloc _).alloc _).below (below_dr _), below_next (bel_alloc (bel_alloc B)) (below_dr _)⟩, ?_⟩
           · rw [← hh]; exact (two_boxes b a _ _ rfl rfl).2
           · rw [← hg]; exact (two_boxes b a _ _ rfl rfl).1
           · rw [hh, hg])
  clear JM0 JM1 JM2 JM3 JM4 JM5 JM6 JM7 JM8 JM9 JC0 JC1 JC2 JC3 JMl JCl ld JM JC B
  intro g h w2 ⟨JA, JB, _, JC, B⟩
  have JA0 := JA.c0
  have JA1 := JA.c1
  have JA2 := JA.c2
  have JA3 := JA.c3
  have JAl := JA.lt
  have JB0 := JB.c0
  have JB1 := JB.c1
  have JB2 := JB.c2
  have JB3 := JB.c3
  have JBl := JB.lt
  have JC0 := JC.c0
  have JC1 := JC.c1
  have JC2 := JC.c2
  have JC3 := JC.c3
  have JCl := JC.lt
  have lb := B.size
  go_wp2_with fail
  refine (XA.out _).mono ?_
  rintro e w3 ⟨rfl, z⟩
  clear JA0 JA1 JA2 JA3 JAl JB0 JB1 JB2 JB3 JBl JC0 JC1 JC2 JC3 JCl lb
  replace JA := JA.below z
  replace JB := JB.below z
  replace JC := JC.below z
  replace B := below_next B z
  clear z
  have JA0 := JA.c0
  have JA1 := JA.c1
  have JA2 := JA.c2
  have JA3 := JA.c3
  have JAl := JA.lt
  have JB0 := JB.c0
  have JB1 := JB.c1
  have JB2 := JB.c2
  have JB3 := JB.c3
  have JBl := JB.lt
  have JC0 := JC.c0
  have JC1 := JC.c1
  have JC2 := JC.c2
  have JC3 := JC.c3
  have JCl := JC.lt
  have lb := B.size
  go_wp2_with fail
  refine (XB.out _).mono ?_
  rintro e w4 ⟨rfl, z⟩
  clear JA0 JA1 JA2 JA3 JAl JB0 JB1 JB2 JB3 JBl JC0 JC1 JC2 JC3 JCl lb
  replace JA := JA.below z
  replace JB := JB.below z
  replace JC := JC.below z
  replace B := below_next B z
  clear z
  have JA0 := JA.c0
  have JA1 := JA.c1
  have JA2 := JA.c2
  have JA3 := JA.c3
  have JAl := JA.lt
  have JB0 := JB.c0
  have JB1 := JB.c1
  have JB2 := JB.c2
  have JB3 := JB.c3
  have JBl := JB.lt
  have JC0 := JC.c0
  have JC1 := JC.c1
  have JC2 := JC.c2
  have JC3 := JC.c3
  have JCl := JC.lt
  have lb := B.size
  go_wp2_with fail
  refine (XA.out _).mono ?_
  rintro e w5 ⟨rfl, z⟩
  clear JA0 JA1 JA2 JA3 JAl JB0 JB1 JB2 JB3 JBl JC0 JC1 JC2 JC3 JCl lb
  replace JA := JA.below z
  replace JB := JB.below z
  replace JC := JC.below z
  replace B := below_next B z
  clear z
  have JA0 := JA.c0
  have JA1 := JA.c1
  have JA2 := JA.c2
  have JA3 := JA.c3
  have JAl := JA.lt
  have JB0 := JB.c0
  have JB1 := JB.c1
  have JB2 := JB.c2
  have JB3 := JB.c3
  have JBl := JB.lt
  have JC0 := JC.c0
  have JC1 := JC.c1
  have JC2 := JC.c2
  have JC3 := JC.c3
  have JCl := JC.lt
  have lb := B.size
  go_wp2
  go_ret
  exact ⟨rfl, B⟩
set_option maxHeartbeats 8000000 in
theorem order_c (op : Int) (d : Bool) (a b c : Sc) (x : B64) (ha : mayX a = true) (hb : mayX b = true) (hc : mayX c = false) (w : World) : Calls Try.prog 8 #[sumV op d a b, sv c, .int .u64 (ub x)] w fun e w' => e = .returned (.bool true) ∧ Below w.heap.size w w' := by
  have X0 := fun W => awake_true W
  replace X0 := hid X0
  have XA : ∀ W, Calls Try.prog 29 #[sv a] W fun e w' => e = .returned (.bool (mayX a)) ∧ Below W.heap.size W w' := fun W => cMay_any a W
  have XB : ∀ W, Calls Try.prog 29 #[sv b] W fun e w' => e = .returned (.bool (mayX b)) ∧ Below W.heap.size W w' := fun W => cMay_any b W
  have XC : ∀ W, Calls Try.prog 29 #[sv c] W fun e w' => e = .returned (.bool (mayX c)) ∧ Below W.heap.size W w' := fun W => cMay_any c W
  rw [ha] at XA
  rw [hb] at XB
  rw [hc] at XC
  unfold sv at XA XB XC
  replace XA := hid XA
  replace XB := hid XB
  replace XC := hid XC
  unfold sumV sv
  go_enter Try.func8, Try.ntmps8
  go_wp2_with fail
  have JM : SmC ((w.alloc (.cells #[.int .i64 op, .bool d, .int .u64 (ub a.1.1), .int .u64 (ub a.1.2), .int .u64 (ub a.2.1), .int .u64 (ub a.2.2), .int .u64 (ub b.1.1), .int .u64 (ub b.1.2), .int .u64 (ub b.2.1), .int .u64 (ub b.2.2)] 63)).alloc (.cells #[.int .u64 (ub c.1.1), .int .u64 (ub c.1.2), .int .u64 (ub c.2.1), .int .u64 (ub c.2.2)] 28)) (w.heap.size) op d a b := ((SmC.new rfl).alloc _)
  have JC : SC ((w.alloc (.cells #[.int .i64 op, .bool d, .int .u64 (ub a.1.1), .int .u64 (ub a.1.2), .int .u64 (ub a.2.1), .int .u64 (ub a.2.2), .int .u64 (ub b.1.1), .int .u64 (ub b.1.2), .int .u64 (ub b.2.1), .int .u64 (ub b.2.2)] 63)).alloc (.cells #[.int .u64 (ub c.1.1), .int .u64 (ub c.1.2), .int .u64 (ub c.2.1), .int .u64 (ub c.2.2)] 28)) (w.heap.size + 1) c := (SC.new (x := c) (by simp))
  have B : Below w.heap.size w ((w.alloc (.cells #[.int .i64 op, .bool d, .int .u64 (ub a.1.1), .int .u64 (ub a.1.2), .int .u64 (ub a.2.1), .int .u64 (ub a.2.2), .int .u64 (ub b.1.1), .int .u64 (ub b.1.2), .int .u64 (ub b.2.1), .int .u64 (ub b.2.2)] 63)).alloc (.cells #[.int .u64 (ub c.1.1), .int .u64 (ub c.1.2), .int .u64 (ub c.2.1), .int .u64 (ub c.2.2)] 28)) := (bel_alloc (bel_alloc (Below.refl _ _)))
  generalize ((w.alloc (.cells #[.int .i64 op, .bool d, .int .u64 (ub a.1.1), .int .u64 (ub a.1.2), .int .u64 (ub a.2.1), .int .u64 (ub a.2.2), .int .u64 (ub b.1.1), .int .u64 (ub b.1.2), .int .u64 (ub b.2.1), .int .u64 (ub b.2.2)] 63)).alloc (.cells #[.int .u64 (ub c.1.1), .int .u64 (ub c.1.2), .int .u64 (ub c.2.1), .int .u64 (ub c.2.2)] 28)) = w00 at *
  have JM0 := JM.c0
  have JM1 := JM.c1
  have JM2 := JM.c2
  have JM3 := JM.c3
  have JM4 := JM.c4
  have JM5 := JM.c5
  have JM6 := JM.c6
  have JM7 := JM.c7
  have JM8 := JM.c8
  have JM9 := JM.c9
  have JMl := JM.lt
  have JC0 := JC.c0
  have JC1 := JC.c1
  have JC2 := JC.c2
  have JC3 := JC.c3
  have JCl := JC.lt
  have lb := B.size
  go_wp2_with fail
  refine (X0.out _).mono ?_
  rintro e w1 ⟨rfl, z⟩
  clear JM0 JM1 JM2 JM3 JM4 JM5 JM6 JM7 JM8 JM9 JMl JC0 JC1 JC2 JC3 JCl lb
  replace JM := JM.below z
  replace JC := JC.below z
  replace B := below_next B z
  clear z
  have JM0 := JM.c0
  have JM1 := JM.c1
  have JM2 := JM.c2
  have JM3 := JM.c3
  have JM4 := JM.c4
  have JM5 := JM.c5
  have JM6 := JM.c6
  have JM7 := JM.c7
  have JM8 := JM.c8
  have JM9 := JM.c9
  have JMl := JM.lt
  have JC0 := JC.c0
  have JC1 := JC.c1
  have JC2 := JC.c2
  have JC3 := JC.c3
  have JCl := JC.lt
  have lb := B.size
  go_wp2_with fail
  clear JM0 JM1 JM2 JM3 JM4 JM5 JM6 JM7 JM8 JM9 JMl JC0 JC1 JC2 JC3 JCl lb
  have JM0 := JM.c0
  have JM1 := JM.c1
  have JM2 := JM.c2
  have JM3 := JM.c3
  have JM4 := JM.c4
  have JM5 := JM.c5
  have JM6 := JM.c6
  have JM7 := JM.c7
  have JM8 := JM.c8
  have JM9 := JM.c9
  have JMl := JM.lt
  have JC0 := JC.c0
  have JC1 := JC.c1
  have JC2 := JC.c2
  have JC3 := JC.c3
  have JCl := JC.lt
  have ld := B.size
  apply cutGG (F := fun g h W' => SC W' g a ∧ SC W' h b ∧ SmC W' (w.heap.size) op d a b ∧ SC W' (w.heap.size + 1) c ∧ Below w.heap.size w W')
  · go_region
    all_goals
      obtain ⟨h, hh⟩ : ∃ h, w1.heap.size + 1 = h := ⟨_, rfl⟩
      obtain ⟨g, hg⟩ : ∃ g, w1.heap.size = g := ⟨_, rfl⟩
      first
        | (refine ⟨g, h, ⟨?_, ?_, ((JM.alloc _).alloc _).below (below_dr _), ((JC.alloc _).alloc _).below (below_dr _), below_next (bel_alloc (bel_alloc B)) (below_dr _)⟩, ?_⟩
           · rw [← hg]; exact (two_boxes a b _ _ rfl rfl).1
           · rw [← hh]; exact (two_boxes a b _ _ rfl rfl).2
           · rw [hh, hg])
        | (refine ⟨h, g, ⟨?_, ?_, ((JM.alloc _).alloc _).below (below_dr _), ((JC.alloc _).alloc _).below (below_dr _), below_next (bel_alloc (bel_alloc B)) (below_dr _)⟩, ?_⟩
           · rw [← hh]; exact (two_boxes b a _ _ rfl rfl).2
           · rw [← hg]; exact (two_boxes b a _ _ rfl rfl).1
           · rw [hh, hg])
  clear JM0 JM1 JM2 JM3 JM4 JM5 JM6 JM7 JM8 JM9 JC0 JC1 JC2 JC3 JMl JCl ld JM JC B
  intro g h w2 ⟨JA, JB, _, JC, B⟩
  have JA0 := JA.c0
  have JA1 := JA.c1
  have JA2 := JA.c2
  have JA3 := JA.c3
  have JAl := JA.lt
  have JB0 := JB.c0
  have JB1 := JB.c1
  have JB2 := JB.c2
  have JB3 := JB.c3
  have JBl := JB.lt
  have JC0 := JC.c0
  have JC1 := JC.c1
  have JC2 := JC.c2
  have JC3 := JC.c3
  have JCl := JC.lt
  have lb := B.size
  go_wp2_with fail
  refine (XA.out _).mono ?_
  rintro e w3 ⟨rfl, z⟩
  clear JA0 JA1 JA2 JA3 JAl JB0 JB1 JB2 JB3 JBl JC0 JC1 JC2 JC3 JCl lb
  replace JA := JA.below z
  replace JB := JB.below z
  replace JC := JC.below z
  replace B := below_next B z
  clear z
  have JA0 := JA.c0
  have JA1 := JA.c1
  have JA2 := JA.c2
  have JA3 := JA.c3
  have JAl := JA.lt
  have JB0 := JB.c0
  have JB1 := JB.c1
  have JB2 := JB.c2
  have JB3 := JB.c3
  have JBl := JB.lt
  have JC0 := JC.c0
  have JC1 := JC.c1
  have JC2 := JC.c2
  have JC3 := JC.c3
  have JCl := JC.lt
  have lb := B.size
  go_wp2_with fail
  refine (XB.out _).mono ?_
  rintro e w4 ⟨rfl, z⟩
  clear JA0 JA1 JA2 JA3 JAl JB0 JB1 JB2 JB3 JBl JC0 JC1 JC2 JC3 JCl lb
  replace JA := JA.below z
  replace JB := JB.below z
  replace JC := JC.below z
  replace B := below_next B z
  clear z
  have JA0 := JA.c0
  have JA1 := JA.c1
  have JA2 := JA.c2
  have JA3 := JA.c3
  have JAl := JA.lt
  have JB0 := JB.c0
  have JB1 := JB.c1
  have JB2 := JB.c2
  have JB3 := JB.c3
  have JBl := JB.lt
  have JC0 := JC.c0
  have JC1 := JC.c1
  have JC2 := JC.c2
  have JC3 := JC.c3
  have JCl := JC.lt
  have lb := B.size
  go_wp2_with fail
  refine (XC.out _).mono ?_
  rintro e w5 ⟨rfl, z⟩
  clear JA0 JA1 JA2 JA3 JAl JB0 JB1 JB2 JB3 JBl JC0 JC1 JC2 JC3 JCl lb
  replace JA := JA.below z
  replace JB := JB.below z
  replace JC := JC.below z
  replace B := below_next B z
  clear z
  have JA0 := JA.c0
  have JA1 := JA.c1
  have JA2 := JA.c2
  have JA3 := JA.c3
  have JAl := JA.lt
  have JB0 := JB.c0
  have JB1 := JB.c1
  have JB2 := JB.c2
  have JB3 := JB.c3
  have JBl := JB.lt
  have JC0 := JC.c0
  have JC1 := JC.c1
  have JC2 := JC.c2
  have JC3 := JC.c3
  have JCl := JC.lt
  have lb := B.size
  go_wp2_with fail
  refine (XA.out _).mono ?_
  rintro e w6 ⟨rfl, z⟩
  clear JA0 JA1 JA2 JA3 JAl JB0 JB1 JB2 JB3 JBl JC0 JC1 JC2 JC3 JCl lb
  replace JA := JA.below z
  replace JB := JB.below z
  replace JC := JC.below z
  replace B := below_next B z
  clear z
  have JA0 := JA.c0
  have JA1 := JA.c1
  have JA2 := JA.c2
  have JA3 := JA.c3
  have JAl := JA.lt
  have JB0 := JB.c0
  have JB1 := JB.c1
  have JB2 := JB.c2
  have JB3 := JB.c3
  have JBl := JB.lt
  have JC0 := JC.c0
  have JC1 := JC.c1
  have JC2 := JC.c2
  have JC3 := JC.c3
  have JCl := JC.lt
  have lb := B.size
  go_wp2
  go_ret
  exact ⟨rfl, B⟩
end Go.Proofs.Ytoanbjnhoggpjaa
