/-
  Contract of the document's Swap (layer 11).
-/
import Derived.Test.YtodmikjpmcabiaaGreatZSeA
import Derived.Test.YtodmikjpmcabiaaGreatZSdB
import Derived.Test.YtodmikjpmcabiaaGreatZScR
import Derived.Deep.RegionLaw
namespace Go.Proofs.YtodmikjpmcabiaaGreat
set_option linter.unusedSimpArgs false
set_option linter.unusedVariables false
set_option maxRecDepth 100000
set_option maxRecDepth 100000
open Go.ChangeShapes Go.WideShapes Go.ChangeAt Go.RowKit

set_option maxHeartbeats 8000000 in
theorem rSwapX_none (bits : Int) (x : Sc) (h16 : ¬ bits = 16) (h32 : ¬ bits = 32) (h64 : ¬ bits = 64) (w : World) : Calls Tryz.prog 8 #[.int .i64 bits, sv x] w fun e w' => e = .returned (.tuple #[sv sc0, .int .i64 1]) ∧ Below w.heap.size w w' := by
  have X1 := fun (n : B64) W => Wd.rswap_none bits (ub n) W h16 h32 h64
  have X2 := fun W => rMayX_any x W
  generalize mayX x = q at *
  clear h16 h32 h64
  obtain ⟨⟨v, m⟩, l, h⟩ := x
  unfold sv at X2 ⊢
  dsimp only at X2 ⊢
  replace X2 := hid X2
  have X3 := hid (X1 m)
  replace X1 := hid (X1 v)
  cases q
  · skip
    go_enter Tryz.func8, Tryz.ntmps8
    go_wp2_with fail
    have JX : SC ((w.alloc (.cells #[.int .u64 (ub v), .int .u64 (ub m), .int .u64 (ub l), .int .u64 (ub h)] 28)).alloc (.cells #[.int .u64 0, .int .u64 0, .int .u64 0, .int .u64 0] 28)) (w.heap.size) ((v, m), l, h) := ((SC.new (x := ((v, m), l, h)) rfl).alloc _)
    have JR : SC ((w.alloc (.cells #[.int .u64 (ub v), .int .u64 (ub m), .int .u64 (ub l), .int .u64 (ub h)] 28)).alloc (.cells #[.int .u64 0, .int .u64 0, .int .u64 0, .int .u64 0] 28)) (w.heap.size + 1) sc0 := (SC.new (x := sc0) (by simp))
    have B : Below w.heap.size w ((w.alloc (.cells #[.int .u64 (ub v), .int .u64 (ub m), .int .u64 (ub l), .int .u64 (ub h)] 28)).alloc (.cells #[.int .u64 0, .int .u64 0, .int .u64 0, .int .u64 0] 28)) := (bel_alloc (bel_alloc (Below.refl _ _)))
    generalize ((w.alloc (.cells #[.int .u64 (ub v), .int .u64 (ub m), .int .u64 (ub l), .int .u64 (ub h)] 28)).alloc (.cells #[.int .u64 0, .int .u64 0, .int .u64 0, .int .u64 0] 28)) = w00 at *
    have JX0 := JX.c0
    have JX1 := JX.c1
    have JX2 := JX.c2
    have JX3 := JX.c3
    have JXl := JX.lt
    have JR0 := JR.c0
    have JR1 := JR.c1
    have JR2 := JR.c2
    have JR3 := JR.c3
    have JRl := JR.lt
    have JRf0 := JR.f0
    have JRf1 := JR.f1
    have JRf2 := JR.f2
    have JRf3 := JR.f3
    have lb := B.size
    go_wp2_with fail
    refine (X1.out _).mono ?_
    rintro e w_ ⟨rfl, rfl⟩
    clear JX0 JX1 JX2 JX3 JXl JR0 JR1 JR2 JR3 JRl JRf0 JRf1 JRf2 JRf3 lb
    have JX0 := JX.c0
    have JX1 := JX.c1
    have JX2 := JX.c2
    have JX3 := JX.c3
    have JXl := JX.lt
    have JR0 := JR.c0
    have JR1 := JR.c1
    have JR2 := JR.c2
    have JR3 := JR.c3
    have JRl := JR.lt
    have JRf0 := JR.f0
    have JRf1 := JR.f1
    have JRf2 := JR.f2
    have JRf3 := JR.f3
    have lb := B.size
    go_wp2_with fail
    refine (X3.out _).mono ?_
    rintro e w_ ⟨rfl, rfl⟩
    clear JX0 JX1 JX2 JX3 JXl JR0 JR1 JR2 JR3 JRl JRf0 JRf1 JRf2 JRf3 lb
    have JX0 := JX.c0
    have JX1 := JX.c1
    have JX2 := JX.c2
    have JX3 := JX.c3
    have JXl := JX.lt
    have JR0 := JR.c0
    have JR1 := JR.c1
    have JR2 := JR.c2
    have JR3 := JR.c3
    have JRl := JR.lt
    have JRf0 := JR.f0
    have JRf1 := JR.f1
    have JRf2 := JR.f2
    have JRf3 := JR.f3
    have lb := B.size
    go_wp2_with fail
    refine (X2.out _).mono ?_
    rintro e w1 ⟨rfl, z⟩
    clear JX0 JX1 JX2 JX3 JXl JR0 JR1 JR2 JR3 JRl JRf0 JRf1 JRf2 JRf3 lb
    replace JX := JX.below z
    replace JR := JR.below z
    replace B := below_next B z
    clear z
    have JX0 := JX.c0
    have JX1 := JX.c1
    have JX2 := JX.c2
    have JX3 := JX.c3
    have JXl := JX.lt
    have JR0 := JR.c0
    have JR1 := JR.c1
    have JR2 := JR.c2
    have JR3 := JR.c3
    have JRl := JR.lt
    have JRf0 := JR.f0
    have JRf1 := JR.f1
    have JRf2 := JR.f2
    have JRf3 := JR.f3
    have lb := B.size
    go_wp2
    exact bodyPost_ret (v := .tuple #[sv sc0, .int .i64 1]) (by simp [results, Tryz.results8, go_sem, JX0, JX1, JX2, JX3, JXl, JR0, JR1, JR2, JR3, JRl]; try first | rfl | exact ⟨rfl, rfl⟩) rfl ⟨rfl, putS_below sc0 B (by omega)⟩
  · skip
    go_enter Tryz.func8, Tryz.ntmps8
    go_wp2_with fail
    have JX : SC ((w.alloc (.cells #[.int .u64 (ub v), .int .u64 (ub m), .int .u64 (ub l), .int .u64 (ub h)] 28)).alloc (.cells #[.int .u64 0, .int .u64 0, .int .u64 0, .int .u64 0] 28)) (w.heap.size) ((v, m), l, h) := ((SC.new (x := ((v, m), l, h)) rfl).alloc _)
    have JR : SC ((w.alloc (.cells #[.int .u64 (ub v), .int .u64 (ub m), .int .u64 (ub l), .int .u64 (ub h)] 28)).alloc (.cells #[.int .u64 0, .int .u64 0, .int .u64 0, .int .u64 0] 28)) (w.heap.size + 1) sc0 := (SC.new (x := sc0) (by simp))
    have B : Below w.heap.size w ((w.alloc (.cells #[.int .u64 (ub v), .int .u64 (ub m), .int .u64 (ub l), .int .u64 (ub h)] 28)).alloc (.cells #[.int .u64 0, .int .u64 0, .int .u64 0, .int .u64 0] 28)) := (bel_alloc (bel_alloc (Below.refl _ _)))
    generalize ((w.alloc (.cells #[.int .u64 (ub v), .int .u64 (ub m), .int .u64 (ub l), .int .u64 (ub h)] 28)).alloc (.cells #[.int .u64 0, .int .u64 0, .int .u64 0, .int .u64 0] 28)) = w00 at *
    have JX0 := JX.c0
    have JX1 := JX.c1
    have JX2 := JX.c2
    have JX3 := JX.c3
    have JXl := JX.lt
    have JR0 := JR.c0
    have JR1 := JR.c1
    have JR2 := JR.c2
    have JR3 := JR.c3
    have JRl := JR.lt
    have JRf0 := JR.f0
    have JRf1 := JR.f1
    have JRf2 := JR.f2
    have JRf3 := JR.f3
    have lb := B.size
    go_wp2_with fail
    refine (X1.out _).mono ?_
    rintro e w_ ⟨rfl, rfl⟩
    clear JX0 JX1 JX2 JX3 JXl JR0 JR1 JR2 JR3 JRl JRf0 JRf1 JRf2 JRf3 lb
    have JX0 := JX.c0
    have JX1 := JX.c1
    have JX2 := JX.c2
    have JX3 := JX.c3
    have JXl := JX.lt
    have JR0 := JR.c0
    have JR1 := JR.c1
    have JR2 := JR.c2
    have JR3 := JR.c3
    have JRl := JR.lt
    have JRf0 := JR.f0
    have JRf1 := JR.f1
    have JRf2 := JR.f2
    have JRf3 := JR.f3
    have lb := B.size
    go_wp2_with fail
    refine (X3.out _).mono ?_
    rintro e w_ ⟨rfl, rfl⟩
    clear JX0 JX1 JX2 JX3 JXl JR0 JR1 JR2 JR3 JRl JRf0 JRf1 JRf2 JRf3 lb
    have JX0 := JX.c0
    have JX1 := JX.c1
    have JX2 := JX.c2
    have JX3 := JX.c3
    have JXl := JX.lt
    have JR0 := JR.c0
    have JR1 := JR.c1
    have JR2 := JR.c2
    have JR3 := JR.c3
    have JRl := JR.lt
    have JRf0 := JR.f0
    have JRf1 := JR.f1
    have JRf2 := JR.f2
    have JRf3 := JR.f3
    have lb := B.size
    go_wp2_with fail
    refine (X2.out _).mono ?_
    rintro e w1 ⟨rfl, z⟩
    clear JX0 JX1 JX2 JX3 JXl JR0 JR1 JR2 JR3 JRl JRf0 JRf1 JRf2 JRf3 lb
    replace JX := JX.below z
    replace JR := JR.below z
    replace B := below_next B z
    clear z
    have JX0 := JX.c0
    have JX1 := JX.c1
    have JX2 := JX.c2
    have JX3 := JX.c3
    have JXl := JX.lt
    have JR0 := JR.c0
    have JR1 := JR.c1
    have JR2 := JR.c2
    have JR3 := JR.c3
    have JRl := JR.lt
    have JRf0 := JR.f0
    have JRf1 := JR.f1
    have JRf2 := JR.f2
    have JRf3 := JR.f3
    have lb := B.size
    go_wp2
    exact bodyPost_ret (v := .tuple #[sv sc0, .int .i64 1]) (by simp [results, Tryz.results8, go_sem, JX0, JX1, JX2, JX3, JXl, JR0, JR1, JR2, JR3, JRl]; try first | rfl | exact ⟨rfl, rfl⟩) rfl ⟨rfl, putS_below sc0 B (by omega)⟩
set_option maxHeartbeats 8000000 in
theorem rSwapX_bad (k : Nat) (hk : k = 2 ∨ k = 4 ∨ k = 8) (x : Sc) (hm : mayX x = false) (w : World) : Calls Tryz.prog 8 #[.int .i64 (8 * k : Nat), sv x] w fun e w' => e = .returned (.tuple #[sv sc0, .int .i64 1]) ∧ Below w.heap.size w w' := by
  have X1 := fun W => Wd.rswap_some k hk (ub x.1.1) W (ub_ge _) (ub_lt _)
  have X3 := fun W => Wd.rswap_some k hk (ub x.1.2) W (ub_ge _) (ub_lt _)
  have X2 := fun W => rMayX_any x W
  rw [hm] at X2
  generalize Wd.rev k (ub x.1.1) = N at *
  generalize Wd.rev k (ub x.1.2) = M at *
  generalize ((8 * k : Nat) : Int) = b at *
  clear hm hk
  obtain ⟨⟨v, m⟩, l, h⟩ := x
  unfold sv at X2 ⊢
  dsimp only at X1 X2 X3 ⊢
  replace X1 := hid X1
  replace X2 := hid X2
  replace X3 := hid X3
  go_enter Tryz.func8, Tryz.ntmps8
  go_wp2_with fail
  have JX : SC ((w.alloc (.cells #[.int .u64 (ub v), .int .u64 (ub m), .int .u64 (ub l), .int .u64 (ub h)] 28)).alloc (.cells #[.int .u64 0, .int .u64 0, .int .u64 0, .int .u64 0] 28)) (w.heap.size) ((v, m), l, h) := ((SC.new (x := ((v, m), l, h)) rfl).alloc _)
  have JR : SC ((w.alloc (.cells #[.int .u64 (ub v), .int .u64 (ub m), .int .u64 (ub l), .int .u64 (ub h)] 28)).alloc (.cells #[.int .u64 0, .int .u64 0, .int .u64 0, .int .u64 0] 28)) (w.heap.size + 1) sc0 := (SC.new (x := sc0) (by simp))
  have B : Below w.heap.size w ((w.alloc (.cells #[.int .u64 (ub v), .int .u64 (ub m), .int .u64 (ub l), .int .u64 (ub h)] 28)).alloc (.cells #[.int .u64 0, .int .u64 0, .int .u64 0, .int .u64 0] 28)) := (bel_alloc (bel_alloc (Below.refl _ _)))
  generalize ((w.alloc (.cells #[.int .u64 (ub v), .int .u64 (ub m), .int .u64 (ub l), .int .u64 (ub h)] 28)).alloc (.cells #[.int .u64 0, .int .u64 0, .int .u64 0, .int .u64 0] 28)) = w00 at *
  have JX0 := JX.c0
  have JX1 := JX.c1
  have JX2 := JX.c2
  have JX3 := JX.c3
  have JXl := JX.lt
  have JR0 := JR.c0
  have JR1 := JR.c1
  have JR2 := JR.c2
  have JR3 := JR.c3
  have JRl := JR.lt
  have JRf0 := JR.f0
  have JRf1 := JR.f1
  have JRf2 := JR.f2
  have JRf3 := JR.f3
  have lb := B.size
  go_wp2_with fail
  refine (X1.out _).mono ?_
  rintro e w_ ⟨rfl, rfl⟩
  clear JX0 JX1 JX2 JX3 JXl JR0 JR1 JR2 JR3 JRl JRf0 JRf1 JRf2 JRf3 lb
  have JX0 := JX.c0
  have JX1 := JX.c1
  have JX2 := JX.c2
  have JX3 := JX.c3
  have JXl := JX.lt
  have JR0 := JR.c0
  have JR1 := JR.c1
  have JR2 := JR.c2
  have JR3 := JR.c3
  have JRl := JR.lt
  have JRf0 := JR.f0
  have JRf1 := JR.f1
  have JRf2 := JR.f2
  have JRf3 := JR.f3
  have lb := B.size
  go_wp2_with fail
  refine (X3.out _).mono ?_
  rintro e w_ ⟨rfl, rfl⟩
  clear JX0 JX1 JX2 JX3 JXl JR0 JR1 JR2 JR3 JRl JRf0 JRf1 JRf2 JRf3 lb
  have JX0 := JX.c0
  have JX1 := JX.c1
  have JX2 := JX.c2
  have JX3 := JX.c3
  have JXl := JX.lt
  have JR0 := JR.c0
  have JR1 := JR.c1
  have JR2 := JR.c2
  have JR3 := JR.c3
  have JRl := JR.lt
  have JRf0 := JR.f0
  have JRf1 := JR.f1
  have JRf2 := JR.f2
  have JRf3 := JR.f3
  have lb := B.size
  go_wp2_with fail
  refine (X2.out _).mono ?_
  rintro e w1 ⟨rfl, z⟩
  clear JX0 JX1 JX2 JX3 JXl JR0 JR1 JR2 JR3 JRl JRf0 JRf1 JRf2 JRf3 lb
  replace JX := JX.below z
  replace JR := JR.below z
  replace B := below_next B z
  clear z
  have JX0 := JX.c0
  have JX1 := JX.c1
  have JX2 := JX.c2
  have JX3 := JX.c3
  have JXl := JX.lt
  have JR0 := JR.c0
  have JR1 := JR.c1
  have JR2 := JR.c2
  have JR3 := JR.c3
  have JRl := JR.lt
  have JRf0 := JR.f0
  have JRf1 := JR.f1
  have JRf2 := JR.f2
  have JRf3 := JR.f3
  have lb := B.size
  go_wp2
  exact bodyPost_ret (v := .tuple #[sv sc0, .int .i64 1]) (by simp [results, Tryz.results8, go_sem, JX0, JX1, JX2, JX3, JXl, JR0, JR1, JR2, JR3, JRl]; try first | rfl | exact ⟨rfl, rfl⟩) rfl ⟨rfl, putS_below sc0 B (by omega)⟩
set_option maxHeartbeats 8000000 in
theorem rSwapX_ok (k : Nat) (hk : k = 2 ∨ k = 4 ∨ k = 8) (x : Sc) (hm : mayX x = true) (w : World) : Calls Tryz.prog 8 #[.int .i64 (8 * k : Nat), sv x] w fun e w' => e = .returned (.tuple #[sv (optS (settle (swpX k x))), .int .i64 0]) ∧ Below w.heap.size w w' := by
  have k8 : k ≤ 8 := by omega
  have X1 := fun W => Wd.rswap_some k hk (ub x.1.1) W (ub_ge _) (ub_lt _)
  have X2 := fun W => rMayX_any x W
  have X3 := fun W => Wd.rswap_some k hk (ub x.1.2) W (ub_ge _) (ub_lt _)
  have X4 := fun W => rBelowI_any (8 * k) (by omega) W
  have X5 := fun W => rSettle_any (swB k x.1.1, swB k x.1.2) (belowI (8 * k : Nat)).2 W
  rw [show ((swB k x.1.1, swB k x.1.2), (belowI (8 * k : Nat)).2) = swpX k x from rfl] at X5
  rw [← sw_ub k k8] at X1 X3
  rw [hm] at X2
  generalize (settle (swpX k x)).isSome = K at *
  generalize optS (settle (swpX k x)) = P at *
  generalize swB k x.1.1 = V at *
  generalize swB k x.1.2 = U at *
  generalize belowI ((8 * k : Nat) : Int) = Y at *
  generalize ((8 * k : Nat) : Int) = b at *
  have HF := fun W => fld2 Y W
  clear hm hk k8
  obtain ⟨⟨v, m⟩, l, h⟩ := x
  unfold sv at X2 X4 X5 ⊢
  unfold tv at X5
  dsimp only at X1 X2 X3 X4 X5 ⊢
  replace X1 := hid X1
  replace X2 := hid X2
  replace X3 := hid X3
  replace X4 := hid X4
  replace X5 := hid X5
  go_enter Tryz.func8, Tryz.ntmps8
  go_wp2_with fail
  have JX : SC ((w.alloc (.cells #[.int .u64 (ub v), .int .u64 (ub m), .int .u64 (ub l), .int .u64 (ub h)] 28)).alloc (.cells #[.int .u64 0, .int .u64 0, .int .u64 0, .int .u64 0] 28)) (w.heap.size) ((v, m), l, h) := ((SC.new (x := ((v, m), l, h)) rfl).alloc _)
  have JR : SC ((w.alloc (.cells #[.int .u64 (ub v), .int .u64 (ub m), .int .u64 (ub l), .int .u64 (ub h)] 28)).alloc (.cells #[.int .u64 0, .int .u64 0, .int .u64 0, .int .u64 0] 28)) (w.heap.size + 1) sc0 := (SC.new (x := sc0) (by simp))
  have B : Below w.heap.size w ((w.alloc (.cells #[.int .u64 (ub v), .int .u64 (ub m), .int .u64 (ub l), .int .u64 (ub h)] 28)).alloc (.cells #[.int .u64 0, .int .u64 0, .int .u64 0, .int .u64 0] 28)) := (bel_alloc (bel_alloc (Below.refl _ _)))
  generalize ((w.alloc (.cells #[.int .u64 (ub v), .int .u64 (ub m), .int .u64 (ub l), .int .u64 (ub h)] 28)).alloc (.cells #[.int .u64 0, .int .u64 0, .int .u64 0, .int .u64 0] 28)) = w00 at *
  have JX0 := JX.c0
  have JX1 := JX.c1
  have JX2 := JX.c2
  have JX3 := JX.c3
  have JXl := JX.lt
  have JR0 := JR.c0
  have JR1 := JR.c1
  have JR2 := JR.c2
  have JR3 := JR.c3
  have JRl := JR.lt
  have JRf0 := JR.f0
  have JRf1 := JR.f1
  have JRf2 := JR.f2
  have JRf3 := JR.f3
  have lb := B.size
  go_wp2_with fail
  refine (X1.out _).mono ?_
  rintro e w_ ⟨rfl, rfl⟩
  clear JX0 JX1 JX2 JX3 JXl JR0 JR1 JR2 JR3 JRl JRf0 JRf1 JRf2 JRf3 lb
  have JX0 := JX.c0
  have JX1 := JX.c1
  have JX2 := JX.c2
  have JX3 := JX.c3
  have JXl := JX.lt
  have JR0 := JR.c0
  have JR1 := JR.c1
  have JR2 := JR.c2
  have JR3 := JR.c3
  have JRl := JR.lt
  have JRf0 := JR.f0
  have JRf1 := JR.f1
  have JRf2 := JR.f2
  have JRf3 := JR.f3
  have lb := B.size
  go_wp2_with fail
  refine (X3.out _).mono ?_
  rintro e w_ ⟨rfl, rfl⟩
  clear JX0 JX1 JX2 JX3 JXl JR0 JR1 JR2 JR3 JRl JRf0 JRf1 JRf2 JRf3 lb
  have JX0 := JX.c0
  have JX1 := JX.c1
  have JX2 := JX.c2
  have JX3 := JX.c3
  have JXl := JX.lt
  have JR0 := JR.c0
  have JR1 := JR.c1
  have JR2 := JR.c2
  have JR3 := JR.c3
  have JRl := JR.lt
  have JRf0 := JR.f0
  have JRf1 := JR.f1
  have JRf2 := JR.f2
  have JRf3 := JR.f3
  have lb := B.size
  go_wp2_with fail
  refine (X2.out _).mono ?_
  rintro e w1 ⟨rfl, z⟩
  clear JX0 JX1 JX2 JX3 JXl JR0 JR1 JR2 JR3 JRl JRf0 JRf1 JRf2 JRf3 lb
  replace JX := JX.below z
  replace JR := JR.below z
  replace B := below_next B z
  clear z
  have JX0 := JX.c0
  have JX1 := JX.c1
  have JX2 := JX.c2
  have JX3 := JX.c3
  have JXl := JX.lt
  have JR0 := JR.c0
  have JR1 := JR.c1
  have JR2 := JR.c2
  have JR3 := JR.c3
  have JRl := JR.lt
  have JRf0 := JR.f0
  have JRf1 := JR.f1
  have JRf2 := JR.f2
  have JRf3 := JR.f3
  have lb := B.size
  go_wp2_with fail
  refine (X4.out _).mono ?_
  rintro e w2 ⟨rfl, z⟩
  clear JX0 JX1 JX2 JX3 JXl JR0 JR1 JR2 JR3 JRl JRf0 JRf1 JRf2 JRf3 lb
  replace JX := JX.below z
  replace JR := JR.below z
  replace B := below_next B z
  clear z
  have JX0 := JX.c0
  have JX1 := JX.c1
  have JX2 := JX.c2
  have JX3 := JX.c3
  have JXl := JX.lt
  have JR0 := JR.c0
  have JR1 := JR.c1
  have JR2 := JR.c2
  have JR3 := JR.c3
  have JRl := JR.lt
  have JRf0 := JR.f0
  have JRf1 := JR.f1
  have JRf2 := JR.f2
  have JRf3 := JR.f3
  have lb := B.size
  go_wp2_with fail
  refine (X5.out _).mono ?_
  rintro e w3 ⟨rfl, z⟩
  clear JX0 JX1 JX2 JX3 JXl JR0 JR1 JR2 JR3 JRl JRf0 JRf1 JRf2 JRf3 lb
  replace JX := JX.below z
  replace JR := JR.below z
  replace B := below_next B z
  clear z
  have JX0 := JX.c0
  have JX1 := JX.c1
  have JX2 := JX.c2
  have JX3 := JX.c3
  have JXl := JX.lt
  have JR0 := JR.c0
  have JR1 := JR.c1
  have JR2 := JR.c2
  have JR3 := JR.c3
  have JRl := JR.lt
  have JRf0 := JR.f0
  have JRf1 := JR.f1
  have JRf2 := JR.f2
  have JRf3 := JR.f3
  have lb := B.size
  go_wp2
  exact bodyPost_ret (v := .tuple #[sv P, .int .i64 0]) (by simp [results, Tryz.results8, go_sem, JX0, JX1, JX2, JX3, JXl, JR0, JR1, JR2, JR3, JRl]; try first | rfl | exact ⟨rfl, rfl⟩) rfl ⟨rfl, bel_alloc (putS_below P B (by omega))⟩
theorem swaps_both (bits : Int) (x : Sc) : ∃ (P : Sc) (E : Int), (∀ w, Calls Tryz.prog 7 #[.int .i64 bits, sv x] w fun e w' => e = .returned (.tuple #[sv P, .int .i64 E]) ∧ Below w.heap.size w w') ∧ ∀ w, Calls Tryz.prog 8 #[.int .i64 bits, sv x] w fun e w' => e = .returned (.tuple #[sv P, .int .i64 E]) ∧ Below w.heap.size w w' := by
  by_cases h16 : bits = 16
  · subst h16
    cases hm : mayX x
    · exact ⟨_, _, fun w => cSwap_bad 2 (by omega) x hm w, fun w => rSwapX_bad 2 (by omega) x hm w⟩
    · exact ⟨_, _, fun w => cSwap_ok 2 (by omega) x hm w, fun w => rSwapX_ok 2 (by omega) x hm w⟩
  by_cases h32 : bits = 32
  · subst h32
    cases hm : mayX x
    · exact ⟨_, _, fun w => cSwap_bad 4 (by omega) x hm w, fun w => rSwapX_bad 4 (by omega) x hm w⟩
    · exact ⟨_, _, fun w => cSwap_ok 4 (by omega) x hm w, fun w => rSwapX_ok 4 (by omega) x hm w⟩
  by_cases h64 : bits = 64
  · subst h64
    cases hm : mayX x
    · exact ⟨_, _, fun w => cSwap_bad 8 (by omega) x hm w, fun w => rSwapX_bad 8 (by omega) x hm w⟩
    · exact ⟨_, _, fun w => cSwap_ok 8 (by omega) x hm w, fun w => rSwapX_ok 8 (by omega) x hm w⟩
  exact ⟨_, _, fun w => cSwap_none bits x h16 h32 h64 w, fun w => rSwapX_none bits x h16 h32 h64 w⟩
set_option maxHeartbeats 8000000 in
theorem swaps_walk (bits : Int) (x : Sc) (w : World) : Calls Tryz.prog 3 #[.int .i64 bits, sv x] w fun e w' => e = .returned (.bool true) ∧ Below w.heap.size w w' := by
  obtain ⟨P, E, X1, X2⟩ := swaps_both bits x
  have XW := hid awake_true
  have EQ := eq_sc P P
  rw [show (P == P) = true by simp] at EQ
  obtain ⟨⟨v, m⟩, l, h⟩ := x
  unfold sv at X1 X2 EQ ⊢
  dsimp only at X1 X2 EQ ⊢
  replace X1 := hid X1
  replace X2 := hid X2
  go_enter Tryz.func3, Tryz.ntmps3
  go_wp2_with fail
  have JX : SC (w.alloc (.cells #[.int .u64 (ub v), .int .u64 (ub m), .int .u64 (ub l), .int .u64 (ub h)] 28)) (w.heap.size) ((v, m), l, h) := (SC.new (x := ((v, m), l, h)) rfl)
  have B : Below w.heap.size w (w.alloc (.cells #[.int .u64 (ub v), .int .u64 (ub m), .int .u64 (ub l), .int .u64 (ub h)] 28)) := (bel_alloc (Below.refl _ _))
  generalize (w.alloc (.cells #[.int .u64 (ub v), .int .u64 (ub m), .int .u64 (ub l), .int .u64 (ub h)] 28)) = w00 at *
  have JX0 := JX.c0
  have JX1 := JX.c1
  have JX2 := JX.c2
  have JX3 := JX.c3
  have JXl := JX.lt
  have lb := B.size
  go_wp2_with fail
  refine (X1.out _).mono ?_
  rintro e w1 ⟨rfl, z⟩
  clear JX0 JX1 JX2 JX3 JXl lb
  replace JX := JX.below z
  replace B := below_next B z
  clear z
  have JX0 := JX.c0
  have JX1 := JX.c1
  have JX2 := JX.c2
  have JX3 := JX.c3
  have JXl := JX.lt
  have lb := B.size
  go_wp2_with fail
  refine (X2.out _).mono ?_
  rintro e w2 ⟨rfl, z⟩
  clear JX0 JX1 JX2 JX3 JXl lb
  have g2JX : w.heap.size < w1.heap.size := JX.lt
  have g2B := B.size
  replace JX := (JX.alloc _).below z
  have JP : SC w2 (w1.heap.size) (P) := (SC.new rfl).below z
  replace B := below_next (bel_alloc B) z
  clear z
  have JX0 := JX.c0
  have JX1 := JX.c1
  have JX2 := JX.c2
  have JX3 := JX.c3
  have JXl := JX.lt
  have JP0 := JP.c0
  have JP1 := JP.c1
  have JP2 := JP.c2
  have JP3 := JP.c3
  have JPl := JP.lt
  have lb := B.size
  go_wp2_with fail
  refine (XW.out _).mono ?_
  rintro e w3 ⟨rfl, z⟩
  clear JX0 JX1 JX2 JX3 JXl JP0 JP1 JP2 JP3 JPl lb
  have g3JX : w.heap.size < w2.heap.size := JX.lt
  have g3JP : w1.heap.size < w2.heap.size := JP.lt
  have g3B := B.size
  replace JX := (JX.alloc _).below z
  replace JP := (JP.alloc _).below z
  have JQ : SC w3 (w2.heap.size) (P) := (SC.new rfl).below z
  replace B := below_next (bel_alloc B) z
  clear z
  have JX0 := JX.c0
  have JX1 := JX.c1
  have JX2 := JX.c2
  have JX3 := JX.c3
  have JXl := JX.lt
  have JP0 := JP.c0
  have JP1 := JP.c1
  have JP2 := JP.c2
  have JP3 := JP.c3
  have JPl := JP.lt
  have JQ0 := JQ.c0
  have JQ1 := JQ.c1
  have JQ2 := JQ.c2
  have JQ3 := JQ.c3
  have JQl := JQ.lt
  have lb := B.size
  go_wp2
  go_ret
  exact ⟨rfl, B⟩
end Go.Proofs.YtodmikjpmcabiaaGreat
