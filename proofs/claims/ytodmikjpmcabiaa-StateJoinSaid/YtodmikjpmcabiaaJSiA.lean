/-
  Contracts of the document's Of, All (layer 11), Nought, InReg (layer 12).
-/
import Derived.Test.YtodmikjpmcabiaaJStD
import Derived.Test.YtodmikjpmcabiaaJRcD
import Derived.Test.YtodmikjpmcabiaaJHrU
import Derived.Deep.RegionHeld3
namespace Go.Proofs.Ytodmikjpmcabiaa
set_option linter.unusedSimpArgs false
set_option linter.unusedVariables false
set_option maxRecDepth 100000
set_option maxRecDepth 100000
open Go.ChangeShapes Go.WideShapes Go.ChangeAt Go.RowKit Me

theorem rOfX_any (n : B64) (w : World) : Calls Try.prog 138 #[.int .u64 (ub n)] w fun e w' => e = .returned (sv (ofX n)) ∧ Below w.heap.size w w' := by
  go_enter Try.func138, Try.ntmps138
  go_wp2
  exact bodyPost_ret (v := sv (ofX n)) (by simp [results, Try.results138, go_sem]; try rfl) rfl ⟨rfl, (Below.refl _ _).alloc (Nat.le_refl _) _⟩
def nouB (r : Rg) : Bool := decide (r.k = 1) && (r.s == ofX 0#64)
theorem nou_num (l : Bool) (m : Int) (s : Sc) (lo hi : Int) : nouB ⟨1, l, m, s, lo, hi⟩ = (s == ofX 0#64) := by unfold nouB; simp
theorem nou_not {r : Rg} (h : r.k ≠ 1) : nouB r = false := by unfold nouB; rw [decide_eq_false h, Bool.false_and]
set_option maxHeartbeats 4000000 in
theorem rNought_any (r : Rg) (w : World) : Calls Try.prog 117 #[rV r] w fun e w' => e = .returned (.bool (nouB r)) ∧ Below w.heap.size w w' := by
  have ES := fun W => eq_sc r.s (ofX 0#64) W
  have OF := fun W => rOfX_any 0#64 W
  rw [ub00] at OF
  obtain ⟨k, l, m, s, lo, hi⟩ := r
  by_cases h1 : k = 1
  · subst h1
    rw [nou_num]
    dsimp only at ES
    generalize (s == ofX 0#64) = q at *
    generalize ofX 0#64 = Z at *
    unfold sv at ES OF
    replace OF := hid OF
    unfold rV
    dsimp only
    go_enter Try.func117, Try.ntmps117
    go_wp2_with fail
    have JX : RC (w.alloc (.cells #[.int .u8 1, .bool l, .int .i64 m, .int .u64 (ub s.1.1), .int .u64 (ub s.1.2), .int .u64 (ub s.2.1), .int .u64 (ub s.2.2), .int .i64 lo, .int .i64 hi] 30)) w.heap.size ⟨1, l, m, s, lo, hi⟩ := RC.new (x := ⟨1, l, m, s, lo, hi⟩) rfl
    have B := bel_alloc (o := .cells #[.int .u8 1, .bool l, .int .i64 m, .int .u64 (ub s.1.1), .int .u64 (ub s.1.2), .int .u64 (ub s.2.1), .int .u64 (ub s.2.2), .int .i64 lo, .int .i64 hi] 30) (Below.refl w.heap.size w)
    generalize w.alloc (.cells #[.int .u8 1, .bool l, .int .i64 m, .int .u64 (ub s.1.1), .int .u64 (ub s.1.2), .int .u64 (ub s.2.1), .int .u64 (ub s.2.2), .int .i64 lo, .int .i64 hi] 30) = u at *
    have x0 := JX.c0
    have x3 := JX.c3
    have x4 := JX.c4
    have x5 := JX.c5
    have x6 := JX.c6
    dsimp only at x0 x3 x4 x5 x6
    refine wp_region_held_drew (S := (fun w' : World => Below u.heap.size u w')) (by kernel_rfl) ?_ (fun hHeld => ?_)
    · (try dsimp only); first | (with_reducible exact below_dr _) | (with_reducible exact Below.refl _ _) | exact below_dr _
    have hBk := below_dr u
    refine tq 0 rfl (fun _ hS => by go_simp; try with_reducible rfl) ?_
    try simp only [s1, s2, s3]
    refine tq 1 rfl (fun _ hS => by have c0 := cn hS x0; go_simp; try with_reducible rfl) ?_
    try simp only [s1, s2, s3]
    refine tq 2 rfl (fun _ hS => by go_simp; try with_reducible rfl) ?_
    try simp only [s1, s2, s3]
    refine tq 3 rfl (fun _ hS => by go_simp; try with_reducible rfl) ?_
    try simp only [s1, s2, s3]
    refine tq 4 rfl (fun _ hS => by go_simp; try with_reducible rfl) ?_
    try simp only [s1, s2, s3]
    refine tq 5 rfl (fun _ hS => by have c0 := cn hS x3; have c1 := cn hS x4; have c2 := cn hS x5; have c3 := cn hS x6; go_simp; try with_reducible rfl) ?_
    try simp only [s1, s2, s3]
    refine wpAnyH_ready (rs := [6]) (by kernel_rfl) (by simp) ?_
    refine AllReadyH.cons rfl (fun K hK => ?_) AllReadyH.nil
    go_simp
    go_at_call 138
    refine (OF.out _).mono ?_
    rintro e wn1_1 ⟨rfl, bkn1_1⟩
    have hBn := below_next hBk bkn1_1
    clear hBk bkn1_1
    have hBk := hBn
    clear hBn
    try go_simp
    refine hK.out _ _ ?_ (fun hHeld => ?_)
    · (try dsimp only); exact hBk
    clear hK K
    (try simp only [Act.put, List.setIfInBounds_toArray, List.set_cons_zero, List.set_cons_succ])
    refine tq 7 rfl (fun _ hS => by go_simp; try with_reducible rfl) ?_
    try simp only [s1, s2, s3]
    refine tq 8 rfl (fun _ hS => by go_simp; try with_reducible rfl) ?_
    try simp only [s1, s2, s3]
    refine tq 9 rfl (fun _ hS => by go_simp; try with_reducible rfl) ?_
    try simp only [s1, s2, s3]
    refine wpAnyH_done (by kernel_rfl) ?_ _
    go_wp2
    go_ret
    exact ⟨rfl, below_next B hBk⟩
  · rw [nou_not (r := ⟨k, l, m, s, lo, hi⟩) h1]
    have e1 : (k == 1) = false := by simpa using h1
    clear ES OF h1
    unfold rV
    dsimp only
    go_enter Try.func117, Try.ntmps117
    go_wp2_with fail
    have JX : RC (w.alloc (.cells #[.int .u8 k, .bool l, .int .i64 m, .int .u64 (ub s.1.1), .int .u64 (ub s.1.2), .int .u64 (ub s.2.1), .int .u64 (ub s.2.2), .int .i64 lo, .int .i64 hi] 30)) w.heap.size ⟨k, l, m, s, lo, hi⟩ := RC.new (x := ⟨k, l, m, s, lo, hi⟩) rfl
    have B := bel_alloc (o := .cells #[.int .u8 k, .bool l, .int .i64 m, .int .u64 (ub s.1.1), .int .u64 (ub s.1.2), .int .u64 (ub s.2.1), .int .u64 (ub s.2.2), .int .i64 lo, .int .i64 hi] 30) (Below.refl w.heap.size w)
    generalize w.alloc (.cells #[.int .u8 k, .bool l, .int .i64 m, .int .u64 (ub s.1.1), .int .u64 (ub s.1.2), .int .u64 (ub s.2.1), .int .u64 (ub s.2.2), .int .i64 lo, .int .i64 hi] 30) = u at *
    have x0 := JX.c0
    dsimp only at x0
    refine wp_region_held_drew (S := (fun w' : World => Below u.heap.size u w')) (by kernel_rfl) ?_ (fun hHeld => ?_)
    · (try dsimp only); first | (with_reducible exact below_dr _) | (with_reducible exact Below.refl _ _) | exact below_dr _
    have hBk := below_dr u
    refine tq 0 rfl (fun _ hS => by go_simp; try with_reducible rfl) ?_
    try simp only [s1, s2, s3]
    refine tq 1 rfl (fun _ hS => by have c0 := cn hS x0; go_simp; try with_reducible rfl) ?_
    try simp only [s1, s2, s3]
    refine tq 2 rfl (fun _ hS => by go_simp; try with_reducible rfl) ?_
    try simp only [s1, s2, s3]
    refine tq 3 rfl (fun _ hS => by go_simp; try with_reducible rfl) ?_
    try simp only [s1, s2, s3]
    refine ts 4 rfl ?_
    try simp only [s1, s2, s3]
    refine ts 5 rfl ?_
    try simp only [s1, s2, s3]
    refine ts 6 rfl ?_
    try simp only [s1, s2, s3]
    refine ts 7 rfl ?_
    try simp only [s1, s2, s3]
    refine tq 8 rfl (fun _ hS => by go_simp; try with_reducible rfl) ?_
    try simp only [s1, s2, s3]
    refine tq 9 rfl (fun _ hS => by go_simp; try with_reducible rfl) ?_
    try simp only [s1, s2, s3]
    refine wpAnyH_done (by kernel_rfl) ?_ _
    go_wp2
    go_ret
    exact ⟨rfl, below_next B hBk⟩
end Go.Proofs.Ytodmikjpmcabiaa
