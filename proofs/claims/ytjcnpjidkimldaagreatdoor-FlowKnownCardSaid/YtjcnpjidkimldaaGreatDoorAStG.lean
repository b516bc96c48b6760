/-
  Contracts of slotHolds, slotIn. Contract of slotJoin. Contract of slotIn.
-/
import Derived.Test.YtjcnpjidkimldaaGreatDoorAStD
import Derived.Deep.RegionHeld3
import Derived.Deep.RegionLaw
namespace Go.Proofs.YtjcnpjidkimldaaGreatDoor
set_option linter.unusedSimpArgs false
set_option linter.unusedVariables false
set_option maxRecDepth 100000
set_option maxRecDepth 100000
open Go.ChangeShapes Go.WideShapes Go.ChangeAt Go.RowKit Me

theorem vb_andNot (x y : B8) : bits .andNot .u8 (vb x) (vb y) = vb (x &&& ~~~y) := by
  rw [u8_andNot _ _ (vb_ge x) (vb_lt x) (vb_ge y) (vb_lt y), vb_nat, vb_nat]; unfold vb
  rw [BitVec.toNat_and, BitVec.toNat_not]
theorem vb_sub (x y : B8) : (bits .andNot .u8 (vb x) (vb y) == 0) = sub8 x y := by
  rw [vb_andNot, show (0 : Int) = vb 0#8 from rfl, vb_eqi]; rfl
end Go.Proofs.YtjcnpjidkimldaaGreatDoor

namespace Go.Proofs.YtjcnpjidkimldaaGreatDoor
set_option linter.unusedSimpArgs false
set_option linter.unusedVariables false
set_option maxRecDepth 100000
set_option maxRecDepth 100000
open Go.ChangeShapes Go.WideShapes Go.ChangeAt Go.RowKit Me

end Go.Proofs.YtjcnpjidkimldaaGreatDoor

namespace Go.Proofs.YtjcnpjidkimldaaGreatDoor
set_option linter.unusedSimpArgs false
set_option linter.unusedVariables false
set_option maxRecDepth 100000
set_option maxRecDepth 100000
open Go.ChangeShapes Go.WideShapes Go.ChangeAt Go.RowKit Me

set_option maxHeartbeats 8000000 in
theorem kIn_any (a b : Sk) (ha : ROk a.r) (hb' : ROk b.r) (w : World) : Calls Tryz.prog 192 #[kV a, kV b] w fun e w' => e = .returned (.bool (kIn a b)) ∧ Below w.heap.size w w' := by
  have SU := fun W => sure_any a W
  have AN := fun W => anyNum_any W
  have ER := fun W => eq_r b.r anyR hb' (by unfold ROk anyR; decide) W
  have RI := fun W => regIn_any a.r b.r ha hb' W
  have hq := vb_sub b.h (sure a)
  have h255 : (vb a.h == 255) = (a.h == 255#8) := vb_eqi a.h 255#8
  unfold kIn
  clear ha hb'
  by_cases b0 : b.r.k = 0
  · rw [if_pos b0]
    clear AN ER RI h255
    generalize sub8 b.h (sure a) = q at *
    generalize sure a = S at *
    have e0 : (b.r.k == 0) = true := by simpa using b0
    clear b0
    unfold kV at SU ⊢
    replace SU := hid SU
    generalize hv : vb S = VS at *
    go_enter Tryz.func192, Tryz.ntmps192
    go_wp2_with fail
    have JX : KC ((w.alloc (.cells #[.int .u8 (vb a.h), .int .u8 a.r.k, .bool a.r.l, .int .i64 a.r.m, .int .u64 (ub a.r.s.1.1), .int .u64 (ub a.r.s.1.2), .int .u64 (ub a.r.s.2.1), .int .u64 (ub a.r.s.2.2), .int .i64 a.r.lo, .int .i64 a.r.hi] 44)).alloc (.cells #[.int .u8 (vb b.h), .int .u8 b.r.k, .bool b.r.l, .int .i64 b.r.m, .int .u64 (ub b.r.s.1.1), .int .u64 (ub b.r.s.1.2), .int .u64 (ub b.r.s.2.1), .int .u64 (ub b.r.s.2.2), .int .i64 b.r.lo, .int .i64 b.r.hi] 44)) w.heap.size a := (KC.new (x := a) rfl).alloc _
    have JY : KC ((w.alloc (.cells #[.int .u8 (vb a.h), .int .u8 a.r.k, .bool a.r.l, .int .i64 a.r.m, .int .u64 (ub a.r.s.1.1), .int .u64 (ub a.r.s.1.2), .int .u64 (ub a.r.s.2.1), .int .u64 (ub a.r.s.2.2), .int .i64 a.r.lo, .int .i64 a.r.hi] 44)).alloc (.cells #[.int .u8 (vb b.h), .int .u8 b.r.k, .bool b.r.l, .int .i64 b.r.m, .int .u64 (ub b.r.s.1.1), .int .u64 (ub b.r.s.1.2), .int .u64 (ub b.r.s.2.1), .int .u64 (ub b.r.s.2.2), .int .i64 b.r.lo, .int .i64 b.r.hi] 44)) (w.heap.size + 1) b := KC.new (x := b) (by simp)
    have B : Below w.heap.size w ((w.alloc (.cells #[.int .u8 (vb a.h), .int .u8 a.r.k, .bool a.r.l, .int .i64 a.r.m, .int .u64 (ub a.r.s.1.1), .int .u64 (ub a.r.s.1.2), .int .u64 (ub a.r.s.2.1), .int .u64 (ub a.r.s.2.2), .int .i64 a.r.lo, .int .i64 a.r.hi] 44)).alloc (.cells #[.int .u8 (vb b.h), .int .u8 b.r.k, .bool b.r.l, .int .i64 b.r.m, .int .u64 (ub b.r.s.1.1), .int .u64 (ub b.r.s.1.2), .int .u64 (ub b.r.s.2.1), .int .u64 (ub b.r.s.2.2), .int .i64 b.r.lo, .int .i64 b.r.hi] 44)) := bel_alloc (bel_alloc (Below.refl _ _))
    generalize (w.alloc (.cells #[.int .u8 (vb a.h), .int .u8 a.r.k, .bool a.r.l, .int .i64 a.r.m, .int .u64 (ub a.r.s.1.1), .int .u64 (ub a.r.s.1.2), .int .u64 (ub a.r.s.2.1), .int .u64 (ub a.r.s.2.2), .int .i64 a.r.lo, .int .i64 a.r.hi] 44)).alloc (.cells #[.int .u8 (vb b.h), .int .u8 b.r.k, .bool b.r.l, .int .i64 b.r.m, .int .u64 (ub b.r.s.1.1), .int .u64 (ub b.r.s.1.2), .int .u64 (ub b.r.s.2.1), .int .u64 (ub b.r.s.2.2), .int .i64 b.r.lo, .int .i64 b.r.hi] 44) = w0 at *
    have q0 := JY.c0
    have q1 := JX.c0
    have q2 := JX.c1
    have q3 := JX.c2
    have q4 := JX.c3
    have q5 := JX.c4
    have q6 := JX.c5
    have q7 := JX.c6
    have q8 := JX.c7
    have q9 := JX.c8
    have q10 := JX.c9
    try dsimp only at q0 q1 q2 q3 q4 q5 q6 q7 q8 q9 q10
    go_region_held3 (fun w' => w'.cell? ⟨w.heap.size + 1, 0, none⟩ = some (.int .u8 (vb b.h)) ∧ w'.cell? ⟨w.heap.size, 0, none⟩ = some (.int .u8 (vb a.h)) ∧ w'.cell? ⟨w.heap.size, 1, none⟩ = some (.int .u8 a.r.k) ∧ w'.cell? ⟨w.heap.size, 2, none⟩ = some (.bool a.r.l) ∧ w'.cell? ⟨w.heap.size, 3, none⟩ = some (.int .i64 a.r.m) ∧ w'.cell? ⟨w.heap.size, 4, none⟩ = some (.int .u64 (ub a.r.s.1.1)) ∧ w'.cell? ⟨w.heap.size, 5, none⟩ = some (.int .u64 (ub a.r.s.1.2)) ∧ w'.cell? ⟨w.heap.size, 6, none⟩ = some (.int .u64 (ub a.r.s.2.1)) ∧ w'.cell? ⟨w.heap.size, 7, none⟩ = some (.int .u64 (ub a.r.s.2.2)) ∧ w'.cell? ⟨w.heap.size, 8, none⟩ = some (.int .i64 a.r.lo) ∧ w'.cell? ⟨w.heap.size, 9, none⟩ = some (.int .i64 a.r.hi) ∧ Below w0.heap.size w0 w')
      (first | (go_split_ands; with_reducible exact ⟨by with_reducible assumption, by with_reducible assumption, by with_reducible assumption, by with_reducible assumption, by with_reducible assumption, by with_reducible assumption, by with_reducible assumption, by with_reducible assumption, by with_reducible assumption, by with_reducible assumption, by with_reducible assumption, by with_reducible assumption⟩) | (with_reducible exact ⟨cn bq (by with_reducible assumption), cn bq (by with_reducible assumption), cn bq (by with_reducible assumption), cn bq (by with_reducible assumption), cn bq (by with_reducible assumption), cn bq (by with_reducible assumption), cn bq (by with_reducible assumption), cn bq (by with_reducible assumption), cn bq (by with_reducible assumption), cn bq (by with_reducible assumption), cn bq (by with_reducible assumption), below_next (by with_reducible assumption) bq⟩) | (with_reducible exact ⟨cn (below_dr w0) q0, cn (below_dr w0) q1, cn (below_dr w0) q2, cn (below_dr w0) q3, cn (below_dr w0) q4, cn (below_dr w0) q5, cn (below_dr w0) q6, cn (below_dr w0) q7, cn (below_dr w0) q8, cn (below_dr w0) q9, cn (below_dr w0) q10, below_dr w0⟩))
      (first | (go_at_call 249; go_split_ands; (with_reducible refine (SU.out _).mono ?_); rintro e wq ⟨rfl, bq⟩))
    go_split_ands
    have zq : Below w0.heap.size w0 wq := by with_reducible assumption
    replace B := below_next B zq
    go_wp2
    go_ret
    exact ⟨rfl, B⟩
  rw [if_neg b0]
  have e0 : (b.r.k == 0) = false := by simpa using b0
  clear SU hq b0
  by_cases a0 : a.r.k = 0
  · rw [if_pos a0]
    clear RI
    have f0 : (a.r.k == 0) = true := by simpa using a0
    generalize rB b.r anyR = q at *
    generalize (a.h == 255#8) = q5 at *
    generalize anyR = AR at *
    unfold rV at AN ER
    unfold kV
    replace AN := hid AN
    clear a0
    cases q5
    · rw [Bool.false_and]
      go_enter Tryz.func192, Tryz.ntmps192
      go_wp2_with fail
      have JX : KC ((w.alloc (.cells #[.int .u8 (vb a.h), .int .u8 a.r.k, .bool a.r.l, .int .i64 a.r.m, .int .u64 (ub a.r.s.1.1), .int .u64 (ub a.r.s.1.2), .int .u64 (ub a.r.s.2.1), .int .u64 (ub a.r.s.2.2), .int .i64 a.r.lo, .int .i64 a.r.hi] 44)).alloc (.cells #[.int .u8 (vb b.h), .int .u8 b.r.k, .bool b.r.l, .int .i64 b.r.m, .int .u64 (ub b.r.s.1.1), .int .u64 (ub b.r.s.1.2), .int .u64 (ub b.r.s.2.1), .int .u64 (ub b.r.s.2.2), .int .i64 b.r.lo, .int .i64 b.r.hi] 44)) w.heap.size a := (KC.new (x := a) rfl).alloc _
      have JY : KC ((w.alloc (.cells #[.int .u8 (vb a.h), .int .u8 a.r.k, .bool a.r.l, .int .i64 a.r.m, .int .u64 (ub a.r.s.1.1), .int .u64 (ub a.r.s.1.2), .int .u64 (ub a.r.s.2.1), .int .u64 (ub a.r.s.2.2), .int .i64 a.r.lo, .int .i64 a.r.hi] 44)).alloc (.cells #[.int .u8 (vb b.h), .int .u8 b.r.k, .bool b.r.l, .int .i64 b.r.m, .int .u64 (ub b.r.s.1.1), .int .u64 (ub b.r.s.1.2), .int .u64 (ub b.r.s.2.1), .int .u64 (ub b.r.s.2.2), .int .i64 b.r.lo, .int .i64 b.r.hi] 44)) (w.heap.size + 1) b := KC.new (x := b) (by simp)
      have B : Below w.heap.size w ((w.alloc (.cells #[.int .u8 (vb a.h), .int .u8 a.r.k, .bool a.r.l, .int .i64 a.r.m, .int .u64 (ub a.r.s.1.1), .int .u64 (ub a.r.s.1.2), .int .u64 (ub a.r.s.2.1), .int .u64 (ub a.r.s.2.2), .int .i64 a.r.lo, .int .i64 a.r.hi] 44)).alloc (.cells #[.int .u8 (vb b.h), .int .u8 b.r.k, .bool b.r.l, .int .i64 b.r.m, .int .u64 (ub b.r.s.1.1), .int .u64 (ub b.r.s.1.2), .int .u64 (ub b.r.s.2.1), .int .u64 (ub b.r.s.2.2), .int .i64 b.r.lo, .int .i64 b.r.hi] 44)) := bel_alloc (bel_alloc (Below.refl _ _))
      generalize (w.alloc (.cells #[.int .u8 (vb a.h), .int .u8 a.r.k, .bool a.r.l, .int .i64 a.r.m, .int .u64 (ub a.r.s.1.1), .int .u64 (ub a.r.s.1.2), .int .u64 (ub a.r.s.2.1), .int .u64 (ub a.r.s.2.2), .int .i64 a.r.lo, .int .i64 a.r.hi] 44)).alloc (.cells #[.int .u8 (vb b.h), .int .u8 b.r.k, .bool b.r.l, .int .i64 b.r.m, .int .u64 (ub b.r.s.1.1), .int .u64 (ub b.r.s.1.2), .int .u64 (ub b.r.s.2.1), .int .u64 (ub b.r.s.2.2), .int .i64 b.r.lo, .int .i64 b.r.hi] 44) = w0 at *
      have q0 := JX.c0
      have hu : undef = Value.tuple #[] := rfl
      first | (go_region_law (fail)) | fail
      all_goals
        replace B := below_next B (below_dr _)
        go_wp2
        go_ret
        exact ⟨rfl, B⟩
    · rw [Bool.true_and]
      go_enter Tryz.func192, Tryz.ntmps192
      go_wp2_with fail
      have JX : KC ((w.alloc (.cells #[.int .u8 (vb a.h), .int .u8 a.r.k, .bool a.r.l, .int .i64 a.r.m, .int .u64 (ub a.r.s.1.1), .int .u64 (ub a.r.s.1.2), .int .u64 (ub a.r.s.2.1), .int .u64 (ub a.r.s.2.2), .int .i64 a.r.lo, .int .i64 a.r.hi] 44)).alloc (.cells #[.int .u8 (vb b.h), .int .u8 b.r.k, .bool b.r.l, .int .i64 b.r.m, .int .u64 (ub b.r.s.1.1), .int .u64 (ub b.r.s.1.2), .int .u64 (ub b.r.s.2.1), .int .u64 (ub b.r.s.2.2), .int .i64 b.r.lo, .int .i64 b.r.hi] 44)) w.heap.size a := (KC.new (x := a) rfl).alloc _
      have JY : KC ((w.alloc (.cells #[.int .u8 (vb a.h), .int .u8 a.r.k, .bool a.r.l, .int .i64 a.r.m, .int .u64 (ub a.r.s.1.1), .int .u64 (ub a.r.s.1.2), .int .u64 (ub a.r.s.2.1), .int .u64 (ub a.r.s.2.2), .int .i64 a.r.lo, .int .i64 a.r.hi] 44)).alloc (.cells #[.int .u8 (vb b.h), .int .u8 b.r.k, .bool b.r.l, .int .i64 b.r.m, .int .u64 (ub b.r.s.1.1), .int .u64 (ub b.r.s.1.2), .int .u64 (ub b.r.s.2.1), .int .u64 (ub b.r.s.2.2), .int .i64 b.r.lo, .int .i64 b.r.hi] 44)) (w.heap.size + 1) b := KC.new (x := b) (by simp)
      have B : Below w.heap.size w ((w.alloc (.cells #[.int .u8 (vb a.h), .int .u8 a.r.k, .bool a.r.l, .int .i64 a.r.m, .int .u64 (ub a.r.s.1.1), .int .u64 (ub a.r.s.1.2), .int .u64 (ub a.r.s.2.1), .int .u64 (ub a.r.s.2.2), .int .i64 a.r.lo, .int .i64 a.r.hi] 44)).alloc (.cells #[.int .u8 (vb b.h), .int .u8 b.r.k, .bool b.r.l, .int .i64 b.r.m, .int .u64 (ub b.r.s.1.1), .int .u64 (ub b.r.s.1.2), .int .u64 (ub b.r.s.2.1), .int .u64 (ub b.r.s.2.2), .int .i64 b.r.lo, .int .i64 b.r.hi] 44)) := bel_alloc (bel_alloc (Below.refl _ _))
      generalize (w.alloc (.cells #[.int .u8 (vb a.h), .int .u8 a.r.k, .bool a.r.l, .int .i64 a.r.m, .int .u64 (ub a.r.s.1.1), .int .u64 (ub a.r.s.1.2), .int .u64 (ub a.r.s.2.1), .int .u64 (ub a.r.s.2.2), .int .i64 a.r.lo, .int .i64 a.r.hi] 44)).alloc (.cells #[.int .u8 (vb b.h), .int .u8 b.r.k, .bool b.r.l, .int .i64 b.r.m, .int .u64 (ub b.r.s.1.1), .int .u64 (ub b.r.s.1.2), .int .u64 (ub b.r.s.2.1), .int .u64 (ub b.r.s.2.2), .int .i64 b.r.lo, .int .i64 b.r.hi] 44) = w0 at *
      have q0 := JX.c0
      have q1 := JY.c1
      have q2 := JY.c2
      have q3 := JY.c3
      have q4 := JY.c4
      have q5 := JY.c5
      have q6 := JY.c6
      have q7 := JY.c7
      have q8 := JY.c8
      have q9 := JY.c9
      try dsimp only at q0 q1 q2 q3 q4 q5 q6 q7 q8 q9
      go_region_held3 (fun w' => w'.cell? ⟨w.heap.size, 0, none⟩ = some (.int .u8 (vb a.h)) ∧ w'.cell? ⟨w.heap.size + 1, 1, none⟩ = some (.int .u8 b.r.k) ∧ w'.cell? ⟨w.heap.size + 1, 2, none⟩ = some (.bool b.r.l) ∧ w'.cell? ⟨w.heap.size + 1, 3, none⟩ = some (.int .i64 b.r.m) ∧ w'.cell? ⟨w.heap.size + 1, 4, none⟩ = some (.int .u64 (ub b.r.s.1.1)) ∧ w'.cell? ⟨w.heap.size + 1, 5, none⟩ = some (.int .u64 (ub b.r.s.1.2)) ∧ w'.cell? ⟨w.heap.size + 1, 6, none⟩ = some (.int .u64 (ub b.r.s.2.1)) ∧ w'.cell? ⟨w.heap.size + 1, 7, none⟩ = some (.int .u64 (ub b.r.s.2.2)) ∧ w'.cell? ⟨w.heap.size + 1, 8, none⟩ = some (.int .i64 b.r.lo) ∧ w'.cell? ⟨w.heap.size + 1, 9, none⟩ = some (.int .i64 b.r.hi) ∧ Below w0.heap.size w0 w')
        (first | (go_split_ands; with_reducible exact ⟨by with_reducible assumption, by with_reducible assumption, by with_reducible assumption, by with_reducible assumption, by with_reducible assumption, by with_reducible assumption, by with_reducible assumption, by with_reducible assumption, by with_reducible assumption, by with_reducible assumption, by with_reducible assumption⟩) | (with_reducible exact ⟨cn bq (by with_reducible assumption), cn bq (by with_reducible assumption), cn bq (by with_reducible assumption), cn bq (by with_reducible assumption), cn bq (by with_reducible assumption), cn bq (by with_reducible assumption), cn bq (by with_reducible assumption), cn bq (by with_reducible assumption), cn bq (by with_reducible assumption), cn bq (by with_reducible assumption), below_next (by with_reducible assumption) bq⟩) | (with_reducible exact ⟨cn (below_dr w0) q0, cn (below_dr w0) q1, cn (below_dr w0) q2, cn (below_dr w0) q3, cn (below_dr w0) q4, cn (below_dr w0) q5, cn (below_dr w0) q6, cn (below_dr w0) q7, cn (below_dr w0) q8, cn (below_dr w0) q9, below_dr w0⟩))
        (first | (go_at_call 250; go_split_ands; (with_reducible refine (AN.out _).mono ?_); rintro e wq ⟨rfl, bq⟩))
      go_split_ands
      have zq : Below w0.heap.size w0 wq := by with_reducible assumption
      replace B := below_next B zq
      go_wp2
      go_ret
      exact ⟨rfl, B⟩
  rw [if_neg a0]
  have f0 : (a.r.k == 0) = false := by simpa using a0
  clear AN ER h255
  generalize rIn a.r b.r = q at *
  unfold rV at RI
  unfold kV
  replace RI := hid RI
  go_enter Tryz.func192, Tryz.ntmps192
  go_wp2_with fail
  refine (RI.out _).mono ?_
  rintro e w1 ⟨rfl, z⟩
  have B := below_next (bel_alloc (bel_alloc (Below.refl w.heap.size w))) z
  clear z
  go_wp2
  go_ret
  exact ⟨rfl, B⟩
end Go.Proofs.YtjcnpjidkimldaaGreatDoor
