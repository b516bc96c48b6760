/-
  Contracts of the document's third, JoinReg (layer 12).
-/
import Derived.Test.YtodmikjpmcabiaaJSiA
import Derived.Test.YtodmikjpmcabiaaJStD
import Derived.Test.YtodmikjpmcabiaaJRcD
namespace Go.Proofs.Ytodmikjpmcabiaa
set_option linter.unusedSimpArgs false
set_option linter.unusedVariables false
set_option maxRecDepth 100000
set_option maxRecDepth 100000
open Go.ChangeShapes Go.WideShapes Go.ChangeAt Go.RowKit Me

def thirdB (r : Rg) : Bool := (r.k == 7) || (nouB r || ((r.k == 6) && ((r.lo == 0) && (r.hi == 0))))
set_option maxHeartbeats 4000000 in
theorem th_7 (l : Bool) (m : Int) (s : Sc) (lo hi : Int) (w : World) : Calls Try.prog 83 #[rV ⟨7, l, m, s, lo, hi⟩] w fun e w' => e = .returned (.bool (true)) ∧ Below w.heap.size w w' := by
  unfold rV
  dsimp only
  go_enter Try.func83, Try.ntmps83
  go_wp2
  go_ret
  exact ⟨by first | rfl | simp, bel_alloc (Below.refl _ _)⟩
set_option maxHeartbeats 4000000 in
theorem th_1 (l : Bool) (m : Int) (s : Sc) (lo hi : Int) (w : World) : Calls Try.prog 83 #[rV ⟨1, l, m, s, lo, hi⟩] w fun e w' => e = .returned (.bool (s == ofX 0#64)) ∧ Below w.heap.size w w' := by
  have N := fun W => (nou_num l m s lo hi) ▸ rNought_any ⟨1, l, m, s, lo, hi⟩ W
  generalize (s == ofX 0#64) = q at *
  unfold rV at N
  dsimp only at N
  replace N := hid N
  cases q
  · skip
    unfold rV
    dsimp only
    go_enter Try.func83, Try.ntmps83
    go_wp2_with fail
    refine (N.out _).mono ?_
    rintro e w1 ⟨rfl, z⟩
    have JX : RC w1 w.heap.size ⟨1, l, m, s, lo, hi⟩ := (RC.new (x := ⟨1, l, m, s, lo, hi⟩) rfl).below z
    have B := below_next (bel_alloc (Below.refl w.heap.size w)) z
    clear z
    have JX0 := JX.c0
    have JX1 := JX.c1
    have JX2 := JX.c2
    have JX3 := JX.c3
    have JX4 := JX.c4
    have JX5 := JX.c5
    have JX6 := JX.c6
    have JX7 := JX.c7
    have JX8 := JX.c8
    dsimp only at JX0 JX1 JX2 JX3 JX4 JX5 JX6 JX7 JX8
    go_wp2
    go_ret
    exact ⟨by first | rfl | simp, B⟩
  · skip
    unfold rV
    dsimp only
    go_enter Try.func83, Try.ntmps83
    go_wp2_with fail
    refine (N.out _).mono ?_
    rintro e w1 ⟨rfl, z⟩
    have JX : RC w1 w.heap.size ⟨1, l, m, s, lo, hi⟩ := (RC.new (x := ⟨1, l, m, s, lo, hi⟩) rfl).below z
    have B := below_next (bel_alloc (Below.refl w.heap.size w)) z
    clear z
    have JX0 := JX.c0
    have JX1 := JX.c1
    have JX2 := JX.c2
    have JX3 := JX.c3
    have JX4 := JX.c4
    have JX5 := JX.c5
    have JX6 := JX.c6
    have JX7 := JX.c7
    have JX8 := JX.c8
    dsimp only at JX0 JX1 JX2 JX3 JX4 JX5 JX6 JX7 JX8
    go_wp2
    go_ret
    exact ⟨by first | rfl | simp, B⟩
set_option maxHeartbeats 4000000 in
theorem th_6 (l : Bool) (m : Int) (s : Sc) (lo hi : Int) (w : World) : Calls Try.prog 83 #[rV ⟨6, l, m, s, lo, hi⟩] w fun e w' => e = .returned (.bool ((lo == 0) && (hi == 0))) ∧ Below w.heap.size w w' := by
  have N := fun W => (nou_not (r := ⟨6, l, m, s, lo, hi⟩) (by simp)) ▸ rNought_any ⟨6, l, m, s, lo, hi⟩ W
  unfold rV at N
  dsimp only at N
  replace N := hid N
  cases h1 : (lo == 0)
  · rw [Bool.false_and]
    unfold rV
    dsimp only
    go_enter Try.func83, Try.ntmps83
    go_wp2_with fail
    refine (N.out _).mono ?_
    rintro e w1 ⟨rfl, z⟩
    have JX : RC w1 w.heap.size ⟨6, l, m, s, lo, hi⟩ := (RC.new (x := ⟨6, l, m, s, lo, hi⟩) rfl).below z
    have B := below_next (bel_alloc (Below.refl w.heap.size w)) z
    clear z
    have JX0 := JX.c0
    have JX1 := JX.c1
    have JX2 := JX.c2
    have JX3 := JX.c3
    have JX4 := JX.c4
    have JX5 := JX.c5
    have JX6 := JX.c6
    have JX7 := JX.c7
    have JX8 := JX.c8
    dsimp only at JX0 JX1 JX2 JX3 JX4 JX5 JX6 JX7 JX8
    go_wp2
    go_ret
    exact ⟨by first | rfl | simp, B⟩
  cases h2 : (hi == 0)
  · rw [Bool.true_and]
    unfold rV
    dsimp only
    go_enter Try.func83, Try.ntmps83
    go_wp2_with fail
    refine (N.out _).mono ?_
    rintro e w1 ⟨rfl, z⟩
    have JX : RC w1 w.heap.size ⟨6, l, m, s, lo, hi⟩ := (RC.new (x := ⟨6, l, m, s, lo, hi⟩) rfl).below z
    have B := below_next (bel_alloc (Below.refl w.heap.size w)) z
    clear z
    have JX0 := JX.c0
    have JX1 := JX.c1
    have JX2 := JX.c2
    have JX3 := JX.c3
    have JX4 := JX.c4
    have JX5 := JX.c5
    have JX6 := JX.c6
    have JX7 := JX.c7
    have JX8 := JX.c8
    dsimp only at JX0 JX1 JX2 JX3 JX4 JX5 JX6 JX7 JX8
    go_wp2
    go_ret
    exact ⟨by first | rfl | simp, B⟩
  · rw [Bool.true_and]
    unfold rV
    dsimp only
    go_enter Try.func83, Try.ntmps83
    go_wp2_with fail
    refine (N.out _).mono ?_
    rintro e w1 ⟨rfl, z⟩
    have JX : RC w1 w.heap.size ⟨6, l, m, s, lo, hi⟩ := (RC.new (x := ⟨6, l, m, s, lo, hi⟩) rfl).below z
    have B := below_next (bel_alloc (Below.refl w.heap.size w)) z
    clear z
    have JX0 := JX.c0
    have JX1 := JX.c1
    have JX2 := JX.c2
    have JX3 := JX.c3
    have JX4 := JX.c4
    have JX5 := JX.c5
    have JX6 := JX.c6
    have JX7 := JX.c7
    have JX8 := JX.c8
    dsimp only at JX0 JX1 JX2 JX3 JX4 JX5 JX6 JX7 JX8
    go_wp2
    go_ret
    exact ⟨by first | rfl | simp, B⟩
set_option maxHeartbeats 4000000 in
theorem th_n (k : Int) (l : Bool) (m : Int) (s : Sc) (lo hi : Int) (h1 : k ≠ 1) (h6 : k ≠ 6) (h7 : k ≠ 7) (w : World) : Calls Try.prog 83 #[rV ⟨k, l, m, s, lo, hi⟩] w fun e w' => e = .returned (.bool (false)) ∧ Below w.heap.size w w' := by
  have N := fun W => (nou_not (r := ⟨k, l, m, s, lo, hi⟩) h1) ▸ rNought_any ⟨k, l, m, s, lo, hi⟩ W
  unfold rV at N
  dsimp only at N
  replace N := hid N
  have e6 : (k == 6) = false := by simpa using h6
  have e7 : (k == 7) = false := by simpa using h7
  clear h1 h6 h7
  unfold rV
  dsimp only
  go_enter Try.func83, Try.ntmps83
  go_wp2_with fail
  refine (N.out _).mono ?_
  rintro e w1 ⟨rfl, z⟩
  have JX : RC w1 w.heap.size ⟨k, l, m, s, lo, hi⟩ := (RC.new (x := ⟨k, l, m, s, lo, hi⟩) rfl).below z
  have B := below_next (bel_alloc (Below.refl w.heap.size w)) z
  clear z
  have JX0 := JX.c0
  have JX1 := JX.c1
  have JX2 := JX.c2
  have JX3 := JX.c3
  have JX4 := JX.c4
  have JX5 := JX.c5
  have JX6 := JX.c6
  have JX7 := JX.c7
  have JX8 := JX.c8
  dsimp only at JX0 JX1 JX2 JX3 JX4 JX5 JX6 JX7 JX8
  go_wp2
  go_ret
  exact ⟨by first | rfl | simp, B⟩
theorem rThird_any (r : Rg) (w : World) : Calls Try.prog 83 #[rV r] w fun e w' => e = .returned (.bool (thirdB r)) ∧ Below w.heap.size w w' := by
  obtain ⟨k, l, m, s, lo, hi⟩ := r
  unfold thirdB
  by_cases h7 : k = 7
  · subst h7
    rw [show ((7 : Int) == 7) = true from rfl, Bool.true_or]
    exact th_7 l m s lo hi w
  have e7 : (k == 7) = false := by simpa using h7
  dsimp only
  rw [e7, Bool.false_or]
  by_cases h1 : k = 1
  · subst h1
    rw [nou_num, show ((1 : Int) == 6) = false from rfl, Bool.false_and, Bool.or_false]
    exact th_1 l m s lo hi w
  rw [nou_not (r := ⟨k, l, m, s, lo, hi⟩) h1, Bool.false_or]
  by_cases h6 : k = 6
  · subst h6
    rw [show ((6 : Int) == 6) = true from rfl, Bool.true_and]
    exact th_6 l m s lo hi w
  · rw [show (k == 6) = false by simpa using h6, Bool.false_and]
    exact th_n k l m s lo hi h1 h6 h7 w
set_option maxHeartbeats 8000000 in
theorem jr_0   (w : World) : Calls Try.prog 35 #[rV ⟨0, false, 0, sc0, 0, 0⟩, rV ⟨0, false, 0, sc0, 0, 0⟩] w fun e w' => e = .returned (rV r0) ∧ Below w.heap.size w w' := by
  unfold rV
  dsimp only
  go_enter Try.func35, Try.ntmps35
  go_wp2
  exact bodyPost_ret (v := rV r0) (by simp [results, Try.results35, go_sem]; try first | rfl | simp [rV]) rfl ⟨rfl, bel_alloc (bel_alloc (bel_alloc (bel_alloc (Below.refl _ _))))⟩
set_option maxHeartbeats 8000000 in
theorem jr_2   (w : World) : Calls Try.prog 35 #[rV ⟨2, false, 0, sc0, 0, 0⟩, rV ⟨2, false, 0, sc0, 0, 0⟩] w fun e w' => e = .returned (rV (⟨2, false, 0, sc0, 0, 0⟩ : Rg)) ∧ Below w.heap.size w w' := by
  unfold rV
  dsimp only
  go_enter Try.func35, Try.ntmps35
  go_wp2
  exact bodyPost_ret (v := rV (⟨2, false, 0, sc0, 0, 0⟩ : Rg)) (by simp [results, Try.results35, go_sem]; try first | rfl | simp [rV]) rfl ⟨rfl, bel_alloc (bel_alloc (bel_alloc (bel_alloc (Below.refl _ _))))⟩
set_option maxHeartbeats 8000000 in
theorem jr_3 (lo hi lo' hi' : Int)  (w : World) : Calls Try.prog 35 #[rV ⟨3, false, 0, sc0, lo, hi⟩, rV ⟨3, false, 0, sc0, lo', hi'⟩] w fun e w' => e = .returned (rV (⟨3, false, 0, sc0, min lo lo', max hi hi'⟩ : Rg)) ∧ Below w.heap.size w w' := by
  unfold rV
  dsimp only
  go_enter Try.func35, Try.ntmps35
  go_wp2
  exact bodyPost_ret (v := rV (⟨3, false, 0, sc0, min lo lo', max hi hi'⟩ : Rg)) (by simp [results, Try.results35, go_sem]; try first | rfl | simp [rV]) rfl ⟨rfl, bel_alloc (bel_alloc (bel_alloc (bel_alloc (Below.refl _ _))))⟩
set_option maxHeartbeats 8000000 in
theorem jr_4 (lo hi lo' hi' : Int)  (w : World) : Calls Try.prog 35 #[rV ⟨4, false, 0, sc0, lo, hi⟩, rV ⟨4, false, 0, sc0, lo', hi'⟩] w fun e w' => e = .returned (rV (⟨4, false, 0, sc0, min lo lo', max hi hi'⟩ : Rg)) ∧ Below w.heap.size w w' := by
  unfold rV
  dsimp only
  go_enter Try.func35, Try.ntmps35
  go_wp2
  exact bodyPost_ret (v := rV (⟨4, false, 0, sc0, min lo lo', max hi hi'⟩ : Rg)) (by simp [results, Try.results35, go_sem]; try first | rfl | simp [rV]) rfl ⟨rfl, bel_alloc (bel_alloc (bel_alloc (bel_alloc (Below.refl _ _))))⟩
set_option maxHeartbeats 8000000 in
theorem jr_5 (m lo hi lo' hi' : Int)  (w : World) : Calls Try.prog 35 #[rV ⟨5, false, m, sc0, lo, hi⟩, rV ⟨5, false, m, sc0, lo', hi'⟩] w fun e w' => e = .returned (rV (⟨5, false, m, sc0, min lo lo', max hi hi'⟩ : Rg)) ∧ Below w.heap.size w w' := by
  unfold rV
  dsimp only
  go_enter Try.func35, Try.ntmps35
  go_wp2
  exact bodyPost_ret (v := rV (⟨5, false, m, sc0, min lo lo', max hi hi'⟩ : Rg)) (by simp [results, Try.results35, go_sem]; try first | rfl | simp [rV]) rfl ⟨rfl, bel_alloc (bel_alloc (bel_alloc (bel_alloc (Below.refl _ _))))⟩
set_option maxHeartbeats 8000000 in
theorem jr_5n (m n lo hi lo' hi' : Int) (h : m ≠ n) (w : World) : Calls Try.prog 35 #[rV ⟨5, false, m, sc0, lo, hi⟩, rV ⟨5, false, n, sc0, lo', hi'⟩] w fun e w' => e = .returned (rV r0) ∧ Below w.heap.size w w' := by
  have e : (m == n) = false := by simpa using h
  have e2 : (m != n) = true := by simpa using h
  clear h
  unfold rV
  dsimp only
  go_enter Try.func35, Try.ntmps35
  go_wp2
  exact bodyPost_ret (v := rV r0) (by simp [results, Try.results35, go_sem]; try first | rfl | simp [rV]) rfl ⟨rfl, bel_alloc (bel_alloc (bel_alloc (bel_alloc (Below.refl _ _))))⟩
set_option maxHeartbeats 8000000 in
theorem jr_6 (m lo hi lo' hi' : Int)  (w : World) : Calls Try.prog 35 #[rV ⟨6, false, m, sc0, lo, hi⟩, rV ⟨6, false, m, sc0, lo', hi'⟩] w fun e w' => e = .returned (rV (⟨6, false, m, sc0, min lo lo', max hi hi'⟩ : Rg)) ∧ Below w.heap.size w w' := by
  unfold rV
  dsimp only
  go_enter Try.func35, Try.ntmps35
  go_wp2
  exact bodyPost_ret (v := rV (⟨6, false, m, sc0, min lo lo', max hi hi'⟩ : Rg)) (by simp [results, Try.results35, go_sem]; try first | rfl | simp [rV]) rfl ⟨rfl, bel_alloc (bel_alloc (bel_alloc (bel_alloc (Below.refl _ _))))⟩
set_option maxHeartbeats 8000000 in
theorem jr_6n (m n lo hi lo' hi' : Int) (h : m ≠ n) (w : World) : Calls Try.prog 35 #[rV ⟨6, false, m, sc0, lo, hi⟩, rV ⟨6, false, n, sc0, lo', hi'⟩] w fun e w' => e = .returned (rV r0) ∧ Below w.heap.size w w' := by
  have e : (m == n) = false := by simpa using h
  have e2 : (m != n) = true := by simpa using h
  clear h
  unfold rV
  dsimp only
  go_enter Try.func35, Try.ntmps35
  go_wp2
  exact bodyPost_ret (v := rV r0) (by simp [results, Try.results35, go_sem]; try first | rfl | simp [rV]) rfl ⟨rfl, bel_alloc (bel_alloc (bel_alloc (bel_alloc (Below.refl _ _))))⟩
set_option maxHeartbeats 8000000 in
theorem jr_7 (m lo hi lo' hi' : Int)  (w : World) : Calls Try.prog 35 #[rV ⟨7, false, m, sc0, lo, hi⟩, rV ⟨7, false, m, sc0, lo', hi'⟩] w fun e w' => e = .returned (rV (⟨7, false, m, sc0, min lo lo', max hi hi'⟩ : Rg)) ∧ Below w.heap.size w w' := by
  unfold rV
  dsimp only
  go_enter Try.func35, Try.ntmps35
  go_wp2
  exact bodyPost_ret (v := rV (⟨7, false, m, sc0, min lo lo', max hi hi'⟩ : Rg)) (by simp [results, Try.results35, go_sem]; try first | rfl | simp [rV]) rfl ⟨rfl, bel_alloc (bel_alloc (bel_alloc (bel_alloc (Below.refl _ _))))⟩
set_option maxHeartbeats 8000000 in
theorem jr_7n (m n lo hi lo' hi' : Int) (h : m ≠ n) (w : World) : Calls Try.prog 35 #[rV ⟨7, false, m, sc0, lo, hi⟩, rV ⟨7, false, n, sc0, lo', hi'⟩] w fun e w' => e = .returned (rV r0) ∧ Below w.heap.size w w' := by
  have e : (m == n) = false := by simpa using h
  have e2 : (m != n) = true := by simpa using h
  clear h
  unfold rV
  dsimp only
  go_enter Try.func35, Try.ntmps35
  go_wp2
  exact bodyPost_ret (v := rV r0) (by simp [results, Try.results35, go_sem]; try first | rfl | simp [rV]) rfl ⟨rfl, bel_alloc (bel_alloc (bel_alloc (bel_alloc (Below.refl _ _))))⟩
end Go.Proofs.Ytodmikjpmcabiaa
