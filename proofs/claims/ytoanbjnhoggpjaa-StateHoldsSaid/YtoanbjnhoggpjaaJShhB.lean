/-
  Contract of the document's HoldsReg (layer 12). Contract of the document's HoldsSlot (layer 12).
-/
import Derived.Test.YtoanbjnhoggpjaaJSiC
import Derived.Test.YtoanbjnhoggpjaaJStG
import Derived.Test.YtoanbjnhoggpjaaJRdB
import Derived.Test.YtoanbjnhoggpjaaJStY
import Derived.Deep.MidRow
namespace Go.Proofs.Ytoanbjnhoggpjaa
set_option linter.unusedSimpArgs false
set_option linter.unusedVariables false
set_option maxRecDepth 100000
open Go.ChangeShapes Go.WideShapes Go.ChangeAt Go.RowKit Me

set_option maxHeartbeats 4000000 in
theorem hr_0 (r : Rg) (vk vm vo : Int) (y : B64) (p : Int) (h : r.k = 0) (w : World) : Calls Try.prog 82 #[rV r, vV ⟨vk, vm, ub y, vo⟩, .int .i64 p] w fun e w' => e = .returned (.bool (true)) ∧ Below w.heap.size w w' := by
  obtain ⟨k, l, m, s, lo, hi⟩ := r
  dsimp only at h
  subst h
  unfold rV vV
  dsimp only
  go_enter Try.func82, Try.ntmps82
  go_wp2
  go_ret
  exact ⟨by first | rfl | simp, bel_alloc (bel_alloc (Below.refl _ _))⟩
set_option maxHeartbeats 4000000 in
theorem hr_1ne (l : Bool) (s : Sc) (vk vm vo : Int) (y : B64) (p : Int) (h : vk ≠ 1) (w : World) : Calls Try.prog 82 #[rV ⟨1, l, 0, s, 0, 0⟩, vV ⟨vk, vm, ub y, vo⟩, .int .i64 p] w fun e w' => e = .returned (.bool (false)) ∧ Below w.heap.size w w' := by
  have e1 : (vk == 1) = false := by simpa using h
  clear h
  unfold rV vV
  dsimp only
  go_enter Try.func82, Try.ntmps82
  go_wp2
  go_ret
  exact ⟨by first | rfl | simp, bel_alloc (bel_alloc (Below.refl _ _))⟩
set_option maxHeartbeats 4000000 in
theorem hr_1 (l : Bool) (s : Sc) (vm vo : Int) (y : B64) (p : Int) (hp0 : 0 ≤ p) (hp1 : p ≤ 65535) (w : World) : Calls Try.prog 82 #[rV ⟨1, l, 0, s, 0, 0⟩, vV ⟨1, vm, ub y, vo⟩, .int .i64 p] w fun e w' => e = .returned (.bool (hasX s y && (!l || ub y == p))) ∧ Below w.heap.size w w' := by
  have X := fun W => rHasX_any s y W
  generalize hasX s y = q at *
  unfold sv at X
  replace X := hid X
  have wp : IntKind.u64.wrap p = p := by rw [IntKind.wrap_u64]; omega
  clear hp0 hp1
  cases q
  · rw [Bool.false_and]
    unfold rV vV
    dsimp only
    go_enter Try.func82, Try.ntmps82
    go_wp2_with fail
    refine (X.out _).mono ?_
    rintro e w1 ⟨rfl, z⟩
    have JX : RC w1 w.heap.size ⟨1, l, 0, s, 0, 0⟩ := ((RC.new (x := ⟨1, l, 0, s, 0, 0⟩) rfl).alloc _).below z
    have JY : VC w1 (w.heap.size + 1) ⟨1, vm, ub y, vo⟩ := (VC.new (x := ⟨1, vm, ub y, vo⟩) (by simp)).below z
    have B := below_next (bel_alloc (bel_alloc (Below.refl w.heap.size w))) z
    clear z
    have JX0 := JX.c0
    have JX1 := JX.c1
    have JX2 := JX.c2
    have JX3 := JX.c3
    have JX4 := JX.c4
    have JX5 := JX.c5
    have JX6 := JX.c6
    have JX7 := JX.c7
    have JX8 := JX.c8
    have JY0 := JY.c0
    have JY1 := JY.c1
    have JY2 := JY.c2
    have JY3 := JY.c3
    dsimp only at JX0 JX1 JX2 JX3 JX4 JX5 JX6 JX7 JX8 JY0 JY1 JY2 JY3
    go_wp2
    go_ret
    exact ⟨by first | rfl | simp, B⟩
  cases l
  · rw [Bool.true_and, Bool.not_false, Bool.true_or]
    unfold rV vV
    dsimp only
    go_enter Try.func82, Try.ntmps82
    go_wp2_with fail
    refine (X.out _).mono ?_
    rintro e w1 ⟨rfl, z⟩
    have JX : RC w1 w.heap.size ⟨1, false, 0, s, 0, 0⟩ := ((RC.new (x := ⟨1, false, 0, s, 0, 0⟩) rfl).alloc _).below z
    have JY : VC w1 (w.heap.size + 1) ⟨1, vm, ub y, vo⟩ := (VC.new (x := ⟨1, vm, ub y, vo⟩) (by simp)).below z
    have B := below_next (bel_alloc (bel_alloc (Below.refl w.heap.size w))) z
    clear z
    have JX0 := JX.c0
    have JX1 := JX.c1
    have JX2 := JX.c2
    have JX3 := JX.c3
    have JX4 := JX.c4
    have JX5 := JX.c5
    have JX6 := JX.c6
    have JX7 := JX.c7
    have JX8 := JX.c8
    have JY0 := JY.c0
    have JY1 := JY.c1
    have JY2 := JY.c2
    have JY3 := JY.c3
    dsimp only at JX0 JX1 JX2 JX3 JX4 JX5 JX6 JX7 JX8 JY0 JY1 JY2 JY3
    go_wp2
    go_ret
    exact ⟨by first | rfl | simp, B⟩
  · rw [Bool.true_and, Bool.not_true, Bool.false_or]
    unfold rV vV
    dsimp only
    go_enter Try.func82, Try.ntmps82
    go_wp2_with fail
    refine (X.out _).mono ?_
    rintro e w1 ⟨rfl, z⟩
    have JX : RC w1 w.heap.size ⟨1, true, 0, s, 0, 0⟩ := ((RC.new (x := ⟨1, true, 0, s, 0, 0⟩) rfl).alloc _).below z
    have JY : VC w1 (w.heap.size + 1) ⟨1, vm, ub y, vo⟩ := (VC.new (x := ⟨1, vm, ub y, vo⟩) (by simp)).below z
    have B := below_next (bel_alloc (bel_alloc (Below.refl w.heap.size w))) z
    clear z
    have JX0 := JX.c0
    have JX1 := JX.c1
    have JX2 := JX.c2
    have JX3 := JX.c3
    have JX4 := JX.c4
    have JX5 := JX.c5
    have JX6 := JX.c6
    have JX7 := JX.c7
    have JX8 := JX.c8
    have JY0 := JY.c0
    have JY1 := JY.c1
    have JY2 := JY.c2
    have JY3 := JY.c3
    dsimp only at JX0 JX1 JX2 JX3 JX4 JX5 JX6 JX7 JX8 JY0 JY1 JY2 JY3
    go_wp2
    go_ret
    exact ⟨by first | rfl | simp, B⟩
set_option maxHeartbeats 4000000 in
theorem hr_2  (vk vm vo : Int) (y : B64) (p : Int)  (w : World) : Calls Try.prog 82 #[rV ⟨2, false, 0, sc0, 0, 0⟩, vV ⟨vk, vm, ub y, vo⟩, .int .i64 p] w fun e w' => e = .returned (.bool ((vk == 2) && (vo == 0))) ∧ Below w.heap.size w w' := by
  cases g0 : (vk == 2)
  · rw [Bool.false_and]
    unfold rV vV
    dsimp only
    go_enter Try.func82, Try.ntmps82
    go_wp2
    go_ret
    exact ⟨by first | rfl | simp, bel_alloc (bel_alloc (Below.refl _ _))⟩
  · rw [Bool.true_and]
    unfold rV vV
    dsimp only
    go_enter Try.func82, Try.ntmps82
    go_wp2
    go_ret
    exact ⟨by first | rfl | simp, bel_alloc (bel_alloc (Below.refl _ _))⟩
set_option maxHeartbeats 4000000 in
theorem hr_3 (lo hi : Int) (vk vm vo : Int) (y : B64) (p : Int)  (w : World) : Calls Try.prog 82 #[rV ⟨3, false, 0, sc0, lo, hi⟩, vV ⟨vk, vm, ub y, vo⟩, .int .i64 p] w fun e w' => e = .returned (.bool ((vk == 3) && (decide (lo ≤ vo) && decide (vo ≤ hi)))) ∧ Below w.heap.size w w' := by
  cases g0 : (vk == 3)
  · rw [Bool.false_and]
    unfold rV vV
    dsimp only
    go_enter Try.func82, Try.ntmps82
    go_wp2
    go_ret
    exact ⟨by first | rfl | simp, bel_alloc (bel_alloc (Below.refl _ _))⟩
  cases g1 : decide (lo ≤ vo)
  · rw [Bool.true_and, Bool.false_and]
    unfold rV vV
    dsimp only
    go_enter Try.func82, Try.ntmps82
    go_wp2
    go_ret
    exact ⟨by first | rfl | simp, bel_alloc (bel_alloc (Below.refl _ _))⟩
  · rw [Bool.true_and, Bool.true_and]
    unfold rV vV
    dsimp only
    go_enter Try.func82, Try.ntmps82
    go_wp2
    go_ret
    exact ⟨by first | rfl | simp, bel_alloc (bel_alloc (Below.refl _ _))⟩
set_option maxHeartbeats 4000000 in
theorem hr_4 (lo hi : Int) (vk vm vo : Int) (y : B64) (p : Int)  (w : World) : Calls Try.prog 82 #[rV ⟨4, false, 0, sc0, lo, hi⟩, vV ⟨vk, vm, ub y, vo⟩, .int .i64 p] w fun e w' => e = .returned (.bool ((vk == 4) && (decide (lo ≤ vo) && decide (vo ≤ hi)))) ∧ Below w.heap.size w w' := by
  cases g0 : (vk == 4)
  · rw [Bool.false_and]
    unfold rV vV
    dsimp only
    go_enter Try.func82, Try.ntmps82
    go_wp2
    go_ret
    exact ⟨by first | rfl | simp, bel_alloc (bel_alloc (Below.refl _ _))⟩
  cases g1 : decide (lo ≤ vo)
  · rw [Bool.true_and, Bool.false_and]
    unfold rV vV
    dsimp only
    go_enter Try.func82, Try.ntmps82
    go_wp2
    go_ret
    exact ⟨by first | rfl | simp, bel_alloc (bel_alloc (Below.refl _ _))⟩
  · rw [Bool.true_and, Bool.true_and]
    unfold rV vV
    dsimp only
    go_enter Try.func82, Try.ntmps82
    go_wp2
    go_ret
    exact ⟨by first | rfl | simp, bel_alloc (bel_alloc (Below.refl _ _))⟩
set_option maxHeartbeats 4000000 in
theorem hr_5 (m : Int) (vk vm vo : Int) (y : B64) (p : Int)  (w : World) : Calls Try.prog 82 #[rV ⟨5, false, m, sc0, 0, 0⟩, vV ⟨vk, vm, ub y, vo⟩, .int .i64 p] w fun e w' => e = .returned (.bool ((vk == 5) && (vm == m))) ∧ Below w.heap.size w w' := by
  cases g0 : (vk == 5)
  · rw [Bool.false_and]
    unfold rV vV
    dsimp only
    go_enter Try.func82, Try.ntmps82
    go_wp2
    go_ret
    exact ⟨by first | rfl | simp, bel_alloc (bel_alloc (Below.refl _ _))⟩
  · rw [Bool.true_and]
    unfold rV vV
    dsimp only
    go_enter Try.func82, Try.ntmps82
    go_wp2
    go_ret
    exact ⟨by first | rfl | simp, bel_alloc (bel_alloc (Below.refl _ _))⟩
set_option maxHeartbeats 4000000 in
theorem hr_6 (m lo hi : Int) (vk vm vo : Int) (y : B64) (p : Int)  (w : World) : Calls Try.prog 82 #[rV ⟨6, false, m, sc0, lo, hi⟩, vV ⟨vk, vm, ub y, vo⟩, .int .i64 p] w fun e w' => e = .returned (.bool ((vk == 6) && ((vm == m) && (decide (lo ≤ vo) && decide (vo ≤ hi))))) ∧ Below w.heap.size w w' := by
  cases g0 : (vk == 6)
  · rw [Bool.false_and]
    unfold rV vV
    dsimp only
    go_enter Try.func82, Try.ntmps82
    go_wp2
    go_ret
    exact ⟨by first | rfl | simp, bel_alloc (bel_alloc (Below.refl _ _))⟩
  cases g1 : (vm == m)
  · rw [Bool.true_and, Bool.false_and]
    unfold rV vV
    dsimp only
    go_enter Try.func82, Try.ntmps82
    go_wp2
    go_ret
    exact ⟨by first | rfl | simp, bel_alloc (bel_alloc (Below.refl _ _))⟩
  cases g2 : decide (lo ≤ vo)
  · rw [Bool.true_and, Bool.true_and, Bool.false_and]
    unfold rV vV
    dsimp only
    go_enter Try.func82, Try.ntmps82
    go_wp2
    go_ret
    exact ⟨by first | rfl | simp, bel_alloc (bel_alloc (Below.refl _ _))⟩
  · rw [Bool.true_and, Bool.true_and, Bool.true_and]
    unfold rV vV
    dsimp only
    go_enter Try.func82, Try.ntmps82
    go_wp2
    go_ret
    exact ⟨by first | rfl | simp, bel_alloc (bel_alloc (Below.refl _ _))⟩
set_option maxHeartbeats 4000000 in
theorem hr_7n (m : Int) (vk vm vo : Int) (y : B64) (p : Int) (h1 : vk ≠ 1) (h6 : vk ≠ 6) (w : World) : Calls Try.prog 82 #[rV ⟨7, false, m, sc0, 0, 0⟩, vV ⟨vk, vm, ub y, vo⟩, .int .i64 p] w fun e w' => e = .returned (.bool (false)) ∧ Below w.heap.size w w' := by
  have e1 : (vk == 1) = false := by simpa using h1
  have e6 : (vk == 6) = false := by simpa using h6
  clear h1 h6
  unfold rV vV
  dsimp only
  go_enter Try.func82, Try.ntmps82
  go_wp2
  go_ret
  exact ⟨by first | rfl | simp, bel_alloc (bel_alloc (Below.refl _ _))⟩
set_option maxHeartbeats 4000000 in
theorem hr_71 (m : Int) (vm vo : Int) (y : B64) (p : Int)  (w : World) : Calls Try.prog 82 #[rV ⟨7, false, m, sc0, 0, 0⟩, vV ⟨1, vm, ub y, vo⟩, .int .i64 p] w fun e w' => e = .returned (.bool (y == 0#64)) ∧ Below w.heap.size w w' := by
  unfold rV vV
  dsimp only
  go_enter Try.func82, Try.ntmps82
  go_wp2
  go_ret
  exact ⟨by first | rfl | simp, bel_alloc (bel_alloc (Below.refl _ _))⟩
set_option maxHeartbeats 4000000 in
theorem hr_76 (m : Int) (vm vo : Int) (y : B64) (p : Int)  (w : World) : Calls Try.prog 82 #[rV ⟨7, false, m, sc0, 0, 0⟩, vV ⟨6, vm, ub y, vo⟩, .int .i64 p] w fun e w' => e = .returned (.bool ((vm == m) && (vo == 0))) ∧ Below w.heap.size w w' := by
  cases g0 : (vm == m)
  · rw [Bool.false_and]
    unfold rV vV
    dsimp only
    go_enter Try.func82, Try.ntmps82
    go_wp2
    go_ret
    exact ⟨by first | rfl | simp, bel_alloc (bel_alloc (Below.refl _ _))⟩
  cases g1 : (vo == 0)
  · rw [Bool.true_and]
    unfold rV vV
    dsimp only
    go_enter Try.func82, Try.ntmps82
    go_wp2
    go_ret
    exact ⟨by first | rfl | simp, bel_alloc (bel_alloc (Below.refl _ _))⟩
  · rw [Bool.true_and]
    unfold rV vV
    dsimp only
    go_enter Try.func82, Try.ntmps82
    go_wp2
    go_ret
    exact ⟨by first | rfl | simp, bel_alloc (bel_alloc (Below.refl _ _))⟩
theorem rHoldsReg_any (r : Rg) (v : Vl) (p : Int) (hr : Rm r) (hv : mayB v = true) (hvo : VOk v) (hp0 : 0 ≤ p) (hp1 : p ≤ 65535) (w : World) : Calls Try.prog 82 #[rV r, vV v, .int .i64 p] w fun e w' => e = .returned (.bool (rHolds r v p)) ∧ Below w.heap.size w w' := by
  obtain ⟨vk, vm, vn, vo⟩ := v
  obtain ⟨y, rfl⟩ := ub_of vn hvo.2.2.1.1 hvo.2.2.1.2
  clear hvo
  unfold mayB at hv
  dsimp only at hv
  cases hr with
  | none => rw [show rHolds r0 ⟨vk, vm, ub y, vo⟩ p = true by unfold rHolds r0; simp]; exact hr_0 r0 vk vm vo y p rfl w
  | num l s h1 h2 =>
    by_cases hk : vk = 1
    · subst hk
      rw [show rHolds ⟨1, l, 0, s, 0, 0⟩ ⟨1, vm, ub y, vo⟩ p = (hasX s y && (!l || ub y == p)) by unfold rHolds; simp [nb_ub]]
      exact hr_1 l s vm vo y p hp0 hp1 w
    · rw [show rHolds ⟨1, l, 0, s, 0, 0⟩ ⟨vk, vm, ub y, vo⟩ p = false by unfold rHolds; simp [hk]]
      exact hr_1ne l s vk vm vo y p hk w
  | ctx =>
    rw [show rHolds ⟨2, false, 0, sc0, 0, 0⟩ ⟨vk, vm, ub y, vo⟩ p = ((vk == 2) && (vo == 0)) by
      unfold rHolds
      by_cases hk : vk = 2
      · subst hk
        simp at hv
        rw [Bool.eq_iff_iff]; simp; omega
      · have e2 : (vk == 2) = false := by simpa using hk
        simp [e2]]
    exact hr_2 vk vm vo y p w
  | far k lo hi hk' h1 h2 h3 =>
    have e : rHolds ⟨k, false, 0, sc0, lo, hi⟩ ⟨vk, vm, ub y, vo⟩ p = ((vk == k) && (decide (lo ≤ vo) && decide (vo ≤ hi))) := by
      unfold rHolds
      dsimp only
      rw [if_neg (by omega), if_neg (by omega), if_neg (by omega)]
      by_cases hk : vk = k
      · subst hk
        rcases hk' with rfl | rfl <;> (simp at hv; simp [hv])
      · have e2 : (vk == k) = false := by simpa using hk
        simp [e2]
    rw [e]
    rcases hk' with rfl | rfl
    · exact hr_3 lo hi vk vm vo y p w
    · exact hr_4 lo hi vk vm vo y p w
  | ref m h1 =>
    rw [show rHolds ⟨5, false, m, sc0, 0, 0⟩ ⟨vk, vm, ub y, vo⟩ p = ((vk == 5) && (vm == m)) by
      unfold rHolds
      by_cases hk : vk = 5
      · subst hk
        simp at hv
        rw [Bool.eq_iff_iff]; simp; omega
      · have e2 : (vk == 5) = false := by simpa using hk
        simp [e2]]
    exact hr_5 m vk vm vo y p w
  | maybe m h1 =>
    by_cases hk : vk = 1
    · subst hk
      rw [show rHolds ⟨7, false, m, sc0, 0, 0⟩ ⟨1, vm, ub y, vo⟩ p = (y == 0#64) by
        rw [← ub_eqz]
        unfold rHolds
        simp at hv
        rw [Bool.eq_iff_iff]; simp [hv]]
      exact hr_71 m vm vo y p w
    by_cases hk6 : vk = 6
    · subst hk6
      rw [show rHolds ⟨7, false, m, sc0, 0, 0⟩ ⟨6, vm, ub y, vo⟩ p = ((vm == m) && (vo == 0)) by
        unfold rHolds
        rw [Bool.eq_iff_iff]; simp]
      exact hr_76 m vm vo y p w
    · rw [show rHolds ⟨7, false, m, sc0, 0, 0⟩ ⟨vk, vm, ub y, vo⟩ p = false by unfold rHolds; simp [hk, hk6]]
      exact hr_7n m vk vm vo y p hk hk6 w
  | cell m lo hi h1 h2 h3 h4 =>
    rw [show rHolds ⟨6, false, m, sc0, lo, hi⟩ ⟨vk, vm, ub y, vo⟩ p = ((vk == 6) && ((vm == m) && (decide (lo ≤ vo) && decide (vo ≤ hi)))) by unfold rHolds; simp]
    exact hr_6 m lo hi vk vm vo y p w
end Go.Proofs.Ytoanbjnhoggpjaa

namespace Go.Proofs.Ytoanbjnhoggpjaa
set_option linter.unusedSimpArgs false
set_option linter.unusedVariables false
set_option maxRecDepth 100000
open Go.ChangeShapes Go.WideShapes Go.ChangeAt Go.RowKit Me

theorem bit8z_all : ∀ x : Fin 256, ∀ j : Fin 8, (bits .and .u8 ((x.val : Int) / 2 ^ j.val) 1 == 0) = !(BitVec.ofNat 8 x.val).getLsbD j.val := by decide +kernel
theorem bit8z (h : B8) (j : Nat) (hj : j < 8) : (bits .and .u8 (vb h / 2 ^ j) 1 == 0) = !h.getLsbD j := by
  have := bit8z_all ⟨h.toNat, h.isLt⟩ ⟨j, hj⟩
  dsimp only at this
  rw [show BitVec.ofNat 8 h.toNat = h by simp] at this
  exact this
theorem byI_vb (x : B8) : byI (vb x) = x := by unfold byI; rw [vb_nat]; simp
theorem numL_bound : ∀ l : List Int, (∀ x ∈ l, 0 ≤ x ∧ x < 256) → 0 ≤ numL l ∧ numL l < 256 ^ l.length
  | [], _ => by simp [numL]
  | x :: l, h => by
    have h1 := h x List.mem_cons_self
    have h2 := numL_bound l fun y hy => h y (List.mem_cons_of_mem _ hy)
    simp only [numL, List.length_cons, Int.pow_succ]
    omega
structure HSI (w : World) (x : Sk) (s : Sl) (W : World) : Prop where
  jx : KC W w.heap.size x
  js : W.rangeAt (w.heap.size + 1) 0 (sC s)
  sz : w.heap.size + 1 < W.heap.size
  bel : Below w.heap.size w W
theorem HSI.next {w : World} {x : Sk} {s : Sl} {W W' : World} (h : HSI w x s W) (z : Below W.heap.size W W') : HSI w x s W' := ⟨h.jx.below z, range_below h.js h.sz (Me.bcell z).1, Nat.lt_of_lt_of_le h.sz z.size, below_next h.bel z⟩
theorem HSI.new (w : World) (x : Sk) (s : Sl) (hs : (sC s).length = 13) {CS : Array Value} (hc : (sC s).toArray = CS) : HSI w x s ((w.alloc (.cells #[.int .u8 (vb x.h), .int .u8 x.r.k, .bool x.r.l, .int .i64 x.r.m, .int .u64 (ub x.r.s.1.1), .int .u64 (ub x.r.s.1.2), .int .u64 (ub x.r.s.2.1), .int .u64 (ub x.r.s.2.2), .int .i64 x.r.lo, .int .i64 x.r.hi] 34)).alloc (.cells CS 48)) := by
  subst hc
  have a := RwT.new (g := w.heap.size) (n := 13) (w := w) (W := w.alloc (.cells #[.int .u8 (vb x.h), .int .u8 x.r.k, .bool x.r.l, .int .i64 x.r.m, .int .u64 (ub x.r.s.1.1), .int .u64 (ub x.r.s.1.2), .int .u64 (ub x.r.s.2.1), .int .u64 (ub x.r.s.2.2), .int .i64 x.r.lo, .int .i64 x.r.hi] 34)) (cs := sC s) 48 (bel_alloc (Below.refl _ _)) (by simp) hs.symm
  refine ⟨(KC.new (x := x) rfl).alloc _, ?_, ?_, a.i.bel⟩
  · have := a.i.r0
    simpa using this
  · simp
theorem sC_len {s : Sl} (h : s.b.length = 8) : (sC s).length = 13 := by simp [sC, bC, vC, h]
theorem sC_byte {s : Sl} (h : s.b.length = 8) (j : Nat) (hj : j < 8) : (sC s)[1 + j]? = some (.int .u8 (s.b.getD j 0)) := by
  have e : s.b[j]? = some (s.b.getD j 0) := by rw [List.getD_eq_getElem?_getD]; simp [h, hj]
  unfold sC bC
  rw [Nat.add_comm]
  simp [List.getElem?_append, h, hj, e]
theorem sC_val {s : Sl} (h : s.b.length = 8) : (sC s)[9]? = some (.int .u8 s.v.k) ∧ (sC s)[10]? = some (.int .i64 s.v.m) ∧ (sC s)[11]? = some (.int .u64 s.v.n) ∧ (sC s)[12]? = some (.int .i64 s.v.o) := by
  unfold sC bC vC
  simp [List.getElem?_append, h]
set_option maxHeartbeats 16000000 in
theorem hs_A1 (x : Sk) (s : Sl) (p : Int) (hl : s.b.length = 8) (h0 : x.r.k = 0) (h1 : x.h = 0#8) (w : World) : Calls Try.prog 83 #[kV x, sV s, .int .i64 p] w fun e w' => e = .returned (.bool (true)) ∧ Below w.heap.size w w' := by
  have H0 := hid h0
  have H1 := hid h1
  clear h0 h1
  obtain ⟨CS, hCS⟩ : ∃ CF, (sC s).toArray = CF := ⟨_, rfl⟩
  have I0 := HSI.new w x s (sC_len hl) hCS
  unfold kV sV
  rw [hCS]
  clear hCS
  go_enter Try.func83, Try.ntmps83
  refine wp_seq ?_
  refine Code.wp_mono (Q := CutX fun a' W' => HSI w x s W' ∧ a' = ⟨#[.agg #[.int .u8 (vb x.h), .int .u8 x.r.k, .bool x.r.l, .int .i64 x.r.m, .int .u64 (ub x.r.s.1.1), .int .u64 (ub x.r.s.1.2), .int .u64 (ub x.r.s.2.1), .int .u64 (ub x.r.s.2.2), .int .i64 x.r.lo, .int .i64 x.r.hi], .agg CS, .int .i64 p, .pointer (some ⟨w.heap.size, 0, none⟩), .pointer (some ⟨w.heap.size + 1, 0, none⟩), undef, .bool false, undef, undef, undef, undef, undef, undef, undef, undef, undef, undef, undef, undef, undef, undef, undef, undef, undef, undef, undef, undef, undef, undef, undef, undef, undef, undef, undef, undef, undef, undef, undef, undef, undef, undef, undef, undef, undef, undef, undef, undef, undef, undef, undef, undef, undef, undef, undef, undef, undef, undef, undef, undef, undef, undef, undef, undef, undef, undef, undef, undef, undef, undef, undef], []⟩) (CutX.imp ?_) ?_
  rotate_left
  · go_wp2
    exact ⟨I0, rfl⟩
  clear I0
  rintro a' w1 ⟨I, rfl⟩
  have x0 := I.jx.c0
  have x1 := I.jx.c1
  rw [H0.out] at x1
  rw [H1.out] at x0
  rw [show vb 0#8 = 0 from rfl] at x0
  clear H0 H1
  go_wp2
  go_ret
  exact ⟨rfl, I.bel⟩
set_option maxHeartbeats 16000000 in
theorem hs_A2 (x : Sk) (s : Sl) (p : Int) (hl : s.b.length = 8) (h0 : x.r.k = 0) (h1 : x.h ≠ 0#8) (h2 : s.v.k ≠ 0) (w : World) : Calls Try.prog 83 #[kV x, sV s, .int .i64 p] w fun e w' => e = .returned (.bool (false)) ∧ Below w.heap.size w w' := by
  have H0 := hid h0
  have e1 : (vb x.h == 0) = false := by rw [show (0 : Int) = vb 0#8 from rfl, vb_eqi]; simpa using h1
  have e2 : (s.v.k == 0) = false := by simpa using h2
  have e3 : (s.v.k != 0) = true := by simpa using h2
  clear h0 h1 h2
  obtain ⟨CS, hCS⟩ : ∃ CF, (sC s).toArray = CF := ⟨_, rfl⟩
  have I0 := HSI.new w x s (sC_len hl) hCS
  unfold kV sV
  rw [hCS]
  clear hCS
  go_enter Try.func83, Try.ntmps83
  refine wp_seq ?_
  refine Code.wp_mono (Q := CutX fun a' W' => HSI w x s W' ∧ a' = ⟨#[.agg #[.int .u8 (vb x.h), .int .u8 x.r.k, .bool x.r.l, .int .i64 x.r.m, .int .u64 (ub x.r.s.1.1), .int .u64 (ub x.r.s.1.2), .int .u64 (ub x.r.s.2.1), .int .u64 (ub x.r.s.2.2), .int .i64 x.r.lo, .int .i64 x.r.hi], .agg CS, .int .i64 p, .pointer (some ⟨w.heap.size, 0, none⟩), .pointer (some ⟨w.heap.size + 1, 0, none⟩), undef, .bool false, undef, undef, undef, undef, undef, undef, undef, undef, undef, undef, undef, undef, undef, undef, undef, undef, undef, undef, undef, undef, undef, undef, undef, undef, undef, undef, undef, undef, undef, undef, undef, undef, undef, undef, undef, undef, undef, undef, undef, undef, undef, undef, undef, undef, undef, undef, undef, undef, undef, undef, undef, undef, undef, undef, undef, undef, undef, undef, undef, undef, undef, undef, undef], []⟩) (CutX.imp ?_) ?_
  rotate_left
  · go_wp2
    exact ⟨I0, rfl⟩
  clear I0
  rintro a' w1 ⟨I, rfl⟩
  have x0 := I.jx.c0
  have x1 := I.jx.c1
  have y9 : w1.cell? ⟨w.heap.size + 1, 9, none⟩ = some (.int .u8 s.v.k) := I.js 9 _ (sC_val hl).1
  rw [H0.out] at x1
  clear H0
  go_wp2
  go_ret
  exact ⟨rfl, I.bel⟩
set_option maxHeartbeats 16000000 in
theorem hs_A3 (x : Sk) (s : Sl) (p : Int) (hl : s.b.length = 8) (hB : B8) (hh : s.h = vb hB) (h0 : x.r.k = 0) (h1 : x.h ≠ 0#8) (h2 : s.v.k = 0) (w : World) : Calls Try.prog 83 #[kV x, sV s, .int .i64 p] w fun e w' => e = .returned (.bool (sub8 x.h hB)) ∧ Below w.heap.size w w' := by
  have H0 := hid h0
  have H2 := hid h2
  have HH := hid hh
  have e1 : (vb x.h == 0) = false := by rw [show (0 : Int) = vb 0#8 from rfl, vb_eqi]; simpa using h1
  have BT := hid (fun (j : Nat) (hj : j < 8) => bit8 x.h j hj)
  have BZ := hid (fun (j : Nat) (hj : j < 8) => bit8z hB j hj)
  clear h0 h1 h2 hh
  obtain ⟨CS, hCS⟩ : ∃ CF, (sC s).toArray = CF := ⟨_, rfl⟩
  have I0 := HSI.new w x s (sC_len hl) hCS
  unfold kV sV
  rw [hCS]
  clear hCS
  go_enter Try.func83, Try.ntmps83
  refine wp_seq ?_
  refine Code.wp_mono (Q := CutX fun a' W' => HSI w x s W' ∧ a' = ⟨#[.agg #[.int .u8 (vb x.h), .int .u8 x.r.k, .bool x.r.l, .int .i64 x.r.m, .int .u64 (ub x.r.s.1.1), .int .u64 (ub x.r.s.1.2), .int .u64 (ub x.r.s.2.1), .int .u64 (ub x.r.s.2.2), .int .i64 x.r.lo, .int .i64 x.r.hi], .agg CS, .int .i64 p, .pointer (some ⟨w.heap.size, 0, none⟩), .pointer (some ⟨w.heap.size + 1, 0, none⟩), undef, .bool false, undef, undef, undef, undef, undef, undef, undef, undef, undef, undef, undef, undef, undef, undef, undef, undef, undef, undef, undef, undef, undef, undef, undef, undef, undef, undef, undef, undef, undef, undef, undef, undef, undef, undef, undef, undef, undef, undef, undef, undef, undef, undef, undef, undef, undef, undef, undef, undef, undef, undef, undef, undef, undef, undef, undef, undef, undef, undef, undef, undef, undef, undef, undef], []⟩) (CutX.imp ?_) ?_
  rotate_left
  · go_wp2
    exact ⟨I0, rfl⟩
  clear I0
  rintro a' w1 ⟨I, rfl⟩
  have x0 := I.jx.c0
  have x1 := I.jx.c1
  have y9 : w1.cell? ⟨w.heap.size + 1, 9, none⟩ = some (.int .u8 s.v.k) := I.js 9 _ (sC_val hl).1
  rw [H0.out] at x1
  rw [H2.out] at y9
  have hI := hid I
  clear I H0 H2
  go_wp2_with fail
  clear x0 x1 y9 e1
  go_loopw [7] (fun i w' => ∃ k : Nat, k ≤ 8 ∧ i = .int .i64 k ∧ Hid (∀ j, j < k → x.h.getLsbD j = true → hB.getLsbD j = true) ∧ Hid (HSI w x s w')) (fun i _ => 8 - (intOf i).toNat)
  case atStart => exact ⟨0, by omega, rfl, hid (fun j hj => by omega), hI⟩
  case round =>
    obtain ⟨k, hk, rfl, hP, hI⟩ := hrel
    by_cases hlt : k < 8
    · have hlt' : (k : Int) < 8 := by omega
      have hk0 : (0 : Int) ≤ k := by omega
      have x0 := hI.out.jx.c0
      have y0 : wr.cell? ⟨w.heap.size + 1, 0, none⟩ = some (.int .u8 s.h) := hI.out.js 0 _ rfl
      rw [HH.out] at y0
      have bt := BT.out k hlt
      have bz := BZ.out k hlt
      cases hq : x.h.getLsbD k
      · rw [hq] at bt
        have hq2 := hid hq
        clear hq bz
        go_wp2
        go_roundw
        case rel => first | exact ⟨k + 1, by omega, by go_num, hid (fun i hi => (Nat.lt_succ_iff_lt_or_eq.1 hi).elim (fun q => hP.out i q) (fun q => q ▸ fun e => absurd (hq2.out.symm.trans e) (by decide))), hI⟩ | ((repeat apply Exists.intro); exact ⟨⟨k + 1, by omega, by go_num, hid (fun i hi => (Nat.lt_succ_iff_lt_or_eq.1 hi).elim (fun q => hP.out i q) (fun q => q ▸ fun e => absurd (hq2.out.symm.trans e) (by decide))), hI⟩, rfl⟩)
        case measure => simp [intOf]; omega
      · rw [hq] at bt
        have hq2 := hid hq
        clear hq
        cases hs : hB.getLsbD k
        · rw [hs] at bz
          rw [Bool.not_false] at bz
          have hs2 := hid hs
          clear hs
          go_wp2
          go_ret
          refine ⟨Me.ret_val ?_, hI.out.bel⟩
          have : sub8 x.h hB = false := by
            cases e : sub8 x.h hB
            · rfl
            · exact absurd (((sub8_bits _ _).1 e k hlt hq2.out).symm.trans hs2.out) (by decide)
          rw [this]
          rfl
        · rw [hs] at bz
          rw [Bool.not_true] at bz
          have hs2 := hid hs
          clear hs
          go_wp2
          go_roundw
          case rel => first | exact ⟨k + 1, by omega, by go_num, hid (fun i hi => (Nat.lt_succ_iff_lt_or_eq.1 hi).elim (fun q => hP.out i q) (fun q => q ▸ fun _ => hs2.out)), hI⟩ | ((repeat apply Exists.intro); exact ⟨⟨k + 1, by omega, by go_num, hid (fun i hi => (Nat.lt_succ_iff_lt_or_eq.1 hi).elim (fun q => hP.out i q) (fun q => q ▸ fun _ => hs2.out)), hI⟩, rfl⟩)
          case measure => simp [intOf]; omega
    · have hk8 : k = 8 := by omega
      subst hk8
      have hT := hid (show sub8 x.h hB = true from (sub8_bits _ _).2 fun j hj e => hP.out j hj e)
      clear hP hlt hk
      go_wp2
      go_ret
      refine ⟨Me.ret_val ?_, hI.out.bel⟩
      rw [hT.out]
      rfl
set_option maxHeartbeats 16000000 in
theorem hs_B1 (x : Sk) (s : Sl) (p : Int) (hl : s.b.length = 8) (h0 : x.r.k ≠ 0) (h2 : s.v.k ≠ 0) (hr : Rm x.r) (hv : mayB s.v = true) (hvo : VOk s.v) (hp0 : 0 ≤ p) (hp1 : p ≤ 65535) (w : World) : Calls Try.prog 83 #[kV x, sV s, .int .i64 p] w fun e w' => e = .returned (.bool (rHolds x.r s.v p)) ∧ Below w.heap.size w w' := by
  have HR := fun W => rHoldsReg_any x.r s.v p hr hv hvo hp0 hp1 W
  generalize rHolds x.r s.v p = q at *
  unfold rV vV at HR
  replace HR := hid HR
  have e0 : (x.r.k == 0) = false := by simpa using h0
  have e3 : (s.v.k != 0) = true := by simpa using h2
  have e2 : (s.v.k == 0) = false := by simpa using h2
  clear h0 h2 hr hv hvo hp0 hp1
  obtain ⟨CS, hCS⟩ : ∃ CF, (sC s).toArray = CF := ⟨_, rfl⟩
  have I0 := HSI.new w x s (sC_len hl) hCS
  unfold kV sV
  rw [hCS]
  clear hCS
  go_enter Try.func83, Try.ntmps83
  refine wp_seq ?_
  refine Code.wp_mono (Q := CutX fun a' W' => HSI w x s W' ∧ a' = ⟨#[.agg #[.int .u8 (vb x.h), .int .u8 x.r.k, .bool x.r.l, .int .i64 x.r.m, .int .u64 (ub x.r.s.1.1), .int .u64 (ub x.r.s.1.2), .int .u64 (ub x.r.s.2.1), .int .u64 (ub x.r.s.2.2), .int .i64 x.r.lo, .int .i64 x.r.hi], .agg CS, .int .i64 p, .pointer (some ⟨w.heap.size, 0, none⟩), .pointer (some ⟨w.heap.size + 1, 0, none⟩), undef, .bool false, undef, undef, undef, undef, undef, undef, undef, undef, undef, undef, undef, undef, undef, undef, undef, undef, undef, undef, undef, undef, undef, undef, undef, undef, undef, undef, undef, undef, undef, undef, undef, undef, undef, undef, undef, undef, undef, undef, undef, undef, undef, undef, undef, undef, undef, undef, undef, undef, undef, undef, undef, undef, undef, undef, undef, undef, undef, undef, undef, undef, undef, undef, undef], []⟩) (CutX.imp ?_) ?_
  rotate_left
  · go_wp2
    exact ⟨I0, rfl⟩
  clear I0
  rintro a' w1 ⟨I, rfl⟩
  have x1 := I.jx.c1
  have x2 := I.jx.c2
  have x3 := I.jx.c3
  have x4 := I.jx.c4
  have x5 := I.jx.c5
  have x6 := I.jx.c6
  have x7 := I.jx.c7
  have x8 := I.jx.c8
  have x9 := I.jx.c9
  have y9 : w1.cell? ⟨w.heap.size + 1, 9, none⟩ = some (.int .u8 s.v.k) := I.js 9 _ (sC_val hl).1
  have y10 : w1.cell? ⟨w.heap.size + 1, 10, none⟩ = some (.int .i64 s.v.m) := I.js 10 _ (sC_val hl).2.1
  have y11 : w1.cell? ⟨w.heap.size + 1, 11, none⟩ = some (.int .u64 s.v.n) := I.js 11 _ (sC_val hl).2.2.1
  have y12 : w1.cell? ⟨w.heap.size + 1, 12, none⟩ = some (.int .i64 s.v.o) := I.js 12 _ (sC_val hl).2.2.2
  go_wp2_with fail
  refine (HR.out _).mono ?_
  rintro e w2 ⟨rfl, z⟩
  have B := below_next I.bel z
  clear z x1 x2 x3 x4 x5 x6 x7 x8 x9 y9 y10 y11 y12
  go_wp2
  go_ret
  exact ⟨rfl, B⟩
set_option maxHeartbeats 16000000 in
theorem hs_B2 (x : Sk) (s : Sl) (p : Int) (hl : s.b.length = 8) (h0 : x.r.k ≠ 0) (h2 : s.v.k = 0) (h3 : s.h ≠ 255) (w : World) : Calls Try.prog 83 #[kV x, sV s, .int .i64 p] w fun e w' => e = .returned (.bool (false)) ∧ Below w.heap.size w w' := by
  have H2 := hid h2
  have e0 : (x.r.k == 0) = false := by simpa using h0
  have e3 : (s.h != 255) = true := by simpa using h3
  have e4 : (s.h == 255) = false := by simpa using h3
  clear h0 h2 h3
  obtain ⟨CS, hCS⟩ : ∃ CF, (sC s).toArray = CF := ⟨_, rfl⟩
  have I0 := HSI.new w x s (sC_len hl) hCS
  unfold kV sV
  rw [hCS]
  clear hCS
  go_enter Try.func83, Try.ntmps83
  refine wp_seq ?_
  refine Code.wp_mono (Q := CutX fun a' W' => HSI w x s W' ∧ a' = ⟨#[.agg #[.int .u8 (vb x.h), .int .u8 x.r.k, .bool x.r.l, .int .i64 x.r.m, .int .u64 (ub x.r.s.1.1), .int .u64 (ub x.r.s.1.2), .int .u64 (ub x.r.s.2.1), .int .u64 (ub x.r.s.2.2), .int .i64 x.r.lo, .int .i64 x.r.hi], .agg CS, .int .i64 p, .pointer (some ⟨w.heap.size, 0, none⟩), .pointer (some ⟨w.heap.size + 1, 0, none⟩), undef, .bool false, undef, undef, undef, undef, undef, undef, undef, undef, undef, undef, undef, undef, undef, undef, undef, undef, undef, undef, undef, undef, undef, undef, undef, undef, undef, undef, undef, undef, undef, undef, undef, undef, undef, undef, undef, undef, undef, undef, undef, undef, undef, undef, undef, undef, undef, undef, undef, undef, undef, undef, undef, undef, undef, undef, undef, undef, undef, undef, undef, undef, undef, undef, undef], []⟩) (CutX.imp ?_) ?_
  rotate_left
  · go_wp2
    exact ⟨I0, rfl⟩
  clear I0
  rintro a' w1 ⟨I, rfl⟩
  have x1 := I.jx.c1
  have y9 : w1.cell? ⟨w.heap.size + 1, 9, none⟩ = some (.int .u8 s.v.k) := I.js 9 _ (sC_val hl).1
  have y0 : w1.cell? ⟨w.heap.size + 1, 0, none⟩ = some (.int .u8 s.h) := I.js 0 _ rfl
  rw [H2.out] at y9
  clear H2
  go_wp2
  go_ret
  exact ⟨rfl, I.bel⟩
set_option maxHeartbeats 16000000 in
theorem hs_B3 (x : Sk) (s : Sl) (p : Int) (hl : s.b.length = 8) (h0 : x.r.k ≠ 0) (h2 : s.v.k = 0) (h3 : s.h = 255) (hb : ∀ y ∈ s.b, 0 ≤ y ∧ y < 256) (hr : Rm x.r) (hp0 : 0 ≤ p) (hp1 : p ≤ 65535) (w : World) : Calls Try.prog 83 #[kV x, sV s, .int .i64 p] w fun e w' => e = .returned (.bool (rHolds x.r ⟨1, 0, numL s.b, 0⟩ p)) ∧ Below w.heap.size w w' := by
  have nb0 := numL_bound s.b hb
  rw [hl] at nb0
  have HR := fun W => rHoldsReg_any x.r ⟨1, 0, numL s.b, 0⟩ p hr (by simp [mayB]) ⟨⟨by simp, by simp⟩, ⟨by simp, by simp⟩, ⟨nb0.1, by have := nb0.2; simp at this; omega⟩, ⟨by simp, by simp⟩⟩ hp0 hp1 W
  generalize hq : rHolds x.r ⟨1, 0, numL s.b, 0⟩ p = q at *
  unfold rV vV at HR
  dsimp only at HR
  replace HR := hid HR
  have H2 := hid h2
  have H3 := hid h3
  have HB := hid hb
  have HL := hid hl
  have e0 : (x.r.k == 0) = false := by simpa using h0
  clear h0 h2 h3 hr hp0 hp1 hb nb0 hq
  obtain ⟨CS, hCS⟩ : ∃ CF, (sC s).toArray = CF := ⟨_, rfl⟩
  have I0 := HSI.new w x s (sC_len hl) hCS
  unfold kV sV
  rw [hCS]
  clear hCS
  go_enter Try.func83, Try.ntmps83
  refine wp_seq ?_
  refine Code.wp_mono (Q := CutX fun a' W' => HSI w x s W' ∧ a' = ⟨#[.agg #[.int .u8 (vb x.h), .int .u8 x.r.k, .bool x.r.l, .int .i64 x.r.m, .int .u64 (ub x.r.s.1.1), .int .u64 (ub x.r.s.1.2), .int .u64 (ub x.r.s.2.1), .int .u64 (ub x.r.s.2.2), .int .i64 x.r.lo, .int .i64 x.r.hi], .agg CS, .int .i64 p, .pointer (some ⟨w.heap.size, 0, none⟩), .pointer (some ⟨w.heap.size + 1, 0, none⟩), undef, .bool false, undef, undef, undef, undef, undef, undef, undef, undef, undef, undef, undef, undef, undef, undef, undef, undef, undef, undef, undef, undef, undef, undef, undef, undef, undef, undef, undef, undef, undef, undef, undef, undef, undef, undef, undef, undef, undef, undef, undef, undef, undef, undef, undef, undef, undef, undef, undef, undef, undef, undef, undef, undef, undef, undef, undef, undef, undef, undef, undef, undef, undef, undef, undef], []⟩) (CutX.imp ?_) ?_
  rotate_left
  · go_wp2
    exact ⟨I0, rfl⟩
  clear I0
  rintro a' w1 ⟨I, rfl⟩
  have x1 := I.jx.c1
  have y9 : w1.cell? ⟨w.heap.size + 1, 9, none⟩ = some (.int .u8 s.v.k) := I.js 9 _ (sC_val hl).1
  have y0 : w1.cell? ⟨w.heap.size + 1, 0, none⟩ = some (.int .u8 s.h) := I.js 0 _ rfl
  rw [H2.out] at y9
  rw [H3.out] at y0
  have hI := hid I
  clear I H2 H3 hl
  go_wp2_with fail
  clear x1 y9 y0 e0
  go_loopw [8, 9] (fun n i w' => ∃ k : Nat, k ≤ 8 ∧ n = .int .u64 (numL (s.b.drop k)) ∧ i = .int .i64 ((k : Int) - 1) ∧ Hid (HSI w x s w')) (fun n i _ => (intOf i + 1).toNat)
  case atStart => exact ⟨8, by omega, by rw [List.drop_eq_nil_of_le (by rw [HL.out]; omega)]; rfl, rfl, hI⟩
  case round =>
    obtain ⟨k, hk, rfl, rfl, hI⟩ := hrel
    cases k with
    | succ m =>
      have hm : m < 8 := by omega
      have em : ((m + 1 : Nat) : Int) - 1 = (m : Int) := by omega
      rw [em]
      have hm0 : (0 : Int) ≤ m := by omega
      have y1 : wr.cell? ⟨w.heap.size + 1, 1 + m, none⟩ = some (.int .u8 (s.b.getD m 0)) := by
        have := hI.out.js (1 + m) _ (sC_byte HL.out m hm)
        rwa [Nat.zero_add] at this
      have y2 : wr.cell? ⟨w.heap.size + 1, m + 1, none⟩ = some (.int .u8 (s.b.getD m 0)) := by rw [Nat.add_comm m 1]; exact y1
      have hdr : s.b.drop m = s.b.getD m 0 :: s.b.drop (m + 1) := by
        rw [List.drop_eq_getElem_cons (by rw [HL.out]; exact hm), List.getD_eq_getElem?_getD, List.getElem?_eq_getElem (by rw [HL.out]; exact hm)]
        rfl
      have hN := numL_bound (s.b.drop (m + 1)) fun y hy => HB.out y (List.mem_of_mem_drop hy)
      have hlen : (s.b.drop (m + 1)).length ≤ 7 := by rw [List.length_drop, HL.out]; omega
      have hN2 : numL (s.b.drop (m + 1)) < 72057594037927936 := Int.lt_of_lt_of_le hN.2 (by
        generalize (s.b.drop (m + 1)).length = L at hlen ⊢
        have : L = 0 ∨ L = 1 ∨ L = 2 ∨ L = 3 ∨ L = 4 ∨ L = 5 ∨ L = 6 ∨ L = 7 := by omega
        rcases this with rfl | rfl | rfl | rfl | rfl | rfl | rfl | rfl <;> decide)
      have hbm : 0 ≤ s.b.getD m 0 ∧ s.b.getD m 0 < 256 := HB.out _ (by rw [List.getD_eq_getElem?_getD, List.getElem?_eq_getElem (by rw [HL.out]; exact hm)]; exact List.getElem_mem _)
      have hnum : numL (s.b.drop m) = s.b.getD m 0 + 256 * numL (s.b.drop (m + 1)) := by rw [hdr]; rfl
      have hN1 := hN.1
      clear hN hlen hdr
      generalize s.b.getD m 0 = bm at *
      generalize numL (s.b.drop (m + 1)) = N at *
      have w1 : IntKind.u64.wrap (256 * N) = 256 * N := by rw [IntKind.wrap_u64]; omega
      have w2 : IntKind.u64.wrap bm = bm := by rw [IntKind.wrap_u64]; omega
      have w3 : IntKind.u64.wrap (256 * N + bm) = 256 * N + bm := by rw [IntKind.wrap_u64]; omega
      have hnum2 : Hid (numL (s.b.drop m) = 256 * N + bm) := hid (by rw [hnum]; omega)
      have hfin : Hid (Value.int .u64 (256 * N + bm) = .int .u64 (numL (s.b.drop m))) := hid (by rw [hnum2.out])
      clear hnum hnum2 hN1 hN2 hbm em
      go_wp2
      go_roundw
      case rel => first | exact ⟨m, by omega, hfin.out, by go_num, hI⟩ | ((repeat apply Exists.intro); exact ⟨⟨m, by omega, hfin.out, by go_num, hI⟩, rfl⟩)
      case measure => first | (simp [intOf]; done) | (simp [intOf]; omega)
    | zero =>
      rw [List.drop_zero]
      have x1 := hI.out.jx.c1
      have x2 := hI.out.jx.c2
      have x3 := hI.out.jx.c3
      have x4 := hI.out.jx.c4
      have x5 := hI.out.jx.c5
      have x6 := hI.out.jx.c6
      have x7 := hI.out.jx.c7
      have x8 := hI.out.jx.c8
      have x9 := hI.out.jx.c9
      have BV : ∀ (n : Int) (W : World), (Instr.build 44 #[(0, .int .u8 1), (2, .int .u64 n)]).run Try.prog W = .ok (.agg #[.int .u8 1, .int .i64 0, .int .u64 n, .int .i64 0]) W := by intro n W; kernel_rfl
      generalize numL s.b = N at *
      go_wp2_with fail
      refine (HR.out _).mono ?_
      rintro e w2 ⟨rfl, z⟩
      have B := below_next hI.out.bel z
      clear z x1 x2 x3 x4 x5 x6 x7 x8 x9
      go_wp2
      go_ret
      exact ⟨rfl, B⟩
theorem v_zero {s : Sl} (hr : rightS s = true) (h : s.v.k = 0) : s.v = v0 := by
  unfold rightS at hr
  by_cases e : s.v = v0
  · exact e
  · rw [if_neg e] at hr
    simp only [Bool.and_eq_true] at hr
    have h1 := hr.1
    unfold mayB at h1
    rw [if_pos h] at h1
    cases hv : s.v with
    | mk k m n o =>
      rw [hv] at h1 h
      simp at h1 h
      exact absurd (by rw [hv, h, h1.1, h1.2.1, h1.2.2]; rfl) e
theorem rHoldsSlot_any (x : Sk) (s : Sl) (p : Int) (hx : kMay x = true) (hr : rightS s = true) (hs : SOk s) (hp0 : 0 ≤ p) (hp1 : p ≤ 65535) (w : World) : Calls Try.prog 83 #[kV x, sV s, .int .i64 p] w fun e w' => e = .returned (.bool (kHolds x s p)) ∧ Below w.heap.size w w' := by
  obtain ⟨⟨g0, g1⟩, gl, gb, gv⟩ := hs
  unfold kHolds
  by_cases h0 : x.r.k = 0
  · rw [if_pos h0]
    by_cases h1 : x.h = 0#8
    · rw [h1, show ((0#8 == 0#8) = true) from rfl, Bool.true_or]
      exact hs_A1 x s p gl h0 h1 w
    · rw [show (x.h == 0#8) = false by simpa using h1, Bool.false_or]
      by_cases h2 : s.v.k = 0
      · rw [decide_eq_true (v_zero hr h2), Bool.true_and]
        obtain ⟨hB, hh⟩ := vb_of s.h g0 g1
        rw [hh, byI_vb]
        exact hs_A3 x s p gl hB hh h0 h1 h2 w
      · rw [decide_eq_false (fun e => h2 (by rw [e]; rfl)), Bool.false_and]
        exact hs_A2 x s p gl h0 h1 h2 w
  · rw [if_neg h0]
    by_cases h2 : s.v.k = 0
    · rw [if_pos (v_zero hr h2)]
      by_cases h3 : s.h = 255
      · rw [show (s.h == 255) = true by simpa using h3, Bool.true_and]
        exact hs_B3 x s p gl h0 h2 h3 gb (kMay_Rm hx) hp0 hp1 w
      · rw [show (s.h == 255) = false by simpa using h3, Bool.false_and]
        exact hs_B2 x s p gl h0 h2 h3 w
    · have e : ¬ s.v = v0 := fun e => h2 (by rw [e]; rfl)
      rw [if_neg e]
      have hm : mayB s.v = true := by
        unfold rightS at hr
        rw [if_neg e, Bool.and_eq_true] at hr
        exact hr.1
      exact hs_B1 x s p gl h0 h2 (kMay_Rm hx) hm gv hp0 hp1 w
end Go.Proofs.Ytoanbjnhoggpjaa
