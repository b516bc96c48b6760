/-
  Contracts of the document's Of, All (layer 11), Nought, InReg (layer 12). Contract of the document's InReg (layer 12). Contracts of the document's Sure, InSlot (layer 12).
-/
import Derived.Test.YtoanbjnhoggpjaaGStD
import Derived.Test.YtoanbjnhoggpjaaGRcC
import Derived.Test.YtoanbjnhoggpjaaGHrU
import Derived.Deep.RegionHeld3
namespace Go.Proofs.Ytoanbjnhoggpjaa
set_option linter.unusedSimpArgs false
set_option linter.unusedVariables false
set_option maxRecDepth 100000
open Go.ChangeShapes Go.WideShapes Go.ChangeAt Go.RowKit Me

theorem rOfX_any (n : B64) (w : World) : Calls Try.prog 179 #[.int .u64 (ub n)] w fun e w' => e = .returned (sv (ofX n)) ∧ Below w.heap.size w w' := by
  go_enter Try.func179, Try.ntmps179
  go_wp2
  exact bodyPost_ret (v := sv (ofX n)) (by simp [results, Try.results179, go_sem]; try rfl) rfl ⟨rfl, (Below.refl _ _).alloc (Nat.le_refl _) _⟩
theorem rAllX_any (w : World) : Calls Try.prog 149 #[] w fun e w' => e = .returned (sv allX) ∧ Below w.heap.size w w' := by
  have X1 := fun W => rAll_any W
  unfold tv at X1
  dsimp only at X1
  replace X1 := hid X1
  go_enter Try.func149, Try.ntmps149
  go_wp2_with fail
  refine (X1.out _).mono ?_
  rintro e w1 ⟨rfl, z⟩
  have JR : SC w1 (w.heap.size) (sc0) := (SC.new rfl).below z
  have B := below_next (bel_alloc (Below.refl w.heap.size w)) z
  clear z
  have JR0 := JR.c0
  have JRf0 := JR.f0
  have JR1 := JR.c1
  have JRf1 := JR.f1
  have JR2 := JR.c2
  have JRf2 := JR.f2
  have JR3 := JR.c3
  have JRf3 := JR.f3
  have JRl := JR.lt
  have lb := B.size
  go_wp2
  exact bodyPost_ret (v := sv allX) (by simp [results, Try.results149, go_sem, JR0, JR1, JR2, JR3, JRl]; try first | rfl | exact ⟨rfl, rfl⟩) rfl ⟨rfl, putS_below allX B (by omega)⟩
def nouB (r : Rg) : Bool := decide (r.k = 1) && (r.s == ofX 0#64)
theorem nou_num (l : Bool) (m : Int) (s : Sc) (lo hi : Int) : nouB ⟨1, l, m, s, lo, hi⟩ = (s == ofX 0#64) := by unfold nouB; simp
theorem nou_not {r : Rg} (h : r.k ≠ 1) : nouB r = false := by unfold nouB; rw [decide_eq_false h, Bool.false_and]
set_option maxHeartbeats 4000000 in
theorem rNought_any (r : Rg) (w : World) : Calls Try.prog 146 #[rV r] w fun e w' => e = .returned (.bool (nouB r)) ∧ Below w.heap.size w w' := by
  have ES := fun W => eq_sc r.s (ofX 0#64) W
  have OF := fun W => rOfX_any 0#64 W
  rw [ub00] at OF
  obtain ⟨k, l, m, s, lo, hi⟩ := r
  by_cases h1 : k = 1
  · subst h1
    rw [nou_num]
    dsimp only at ES
    generalize (s == ofX 0#64) = q at *
    generalize ofX 0#64 = Z at *
    unfold sv at ES OF
    replace OF := hid OF
    unfold rV
    dsimp only
    go_enter Try.func146, Try.ntmps146
    go_wp2_with fail
    have JX : RC (w.alloc (.cells #[.int .u8 1, .bool l, .int .i64 m, .int .u64 (ub s.1.1), .int .u64 (ub s.1.2), .int .u64 (ub s.2.1), .int .u64 (ub s.2.2), .int .i64 lo, .int .i64 hi] 31)) w.heap.size ⟨1, l, m, s, lo, hi⟩ := RC.new (x := ⟨1, l, m, s, lo, hi⟩) rfl
    have B := bel_alloc (o := .cells #[.int .u8 1, .bool l, .int .i64 m, .int .u64 (ub s.1.1), .int .u64 (ub s.1.2), .int .u64 (ub s.2.1), .int .u64 (ub s.2.2), .int .i64 lo, .int .i64 hi] 31) (Below.refl w.heap.size w)
    generalize w.alloc (.cells #[.int .u8 1, .bool l, .int .i64 m, .int .u64 (ub s.1.1), .int .u64 (ub s.1.2), .int .u64 (ub s.2.1), .int .u64 (ub s.2.2), .int .i64 lo, .int .i64 hi] 31) = u at *
    have x0 := JX.c0
    have x3 := JX.c3
    have x4 := JX.c4
    have x5 := JX.c5
    have x6 := JX.c6
    dsimp only at x0 x3 x4 x5 x6
    refine wp_region_held_drew (S := (fun w' : World => Below u.heap.size u w')) (by kernel_rfl) ?_ (fun hHeld => ?_)
    · (try dsimp only); first | (with_reducible exact below_dr _) | (with_reducible exact Below.refl _ _) | exact below_dr _
    have hBk := below_dr u
    refine tq 0 rfl (fun _ hS => by go_simp; try with_reducible rfl) ?_
    try simp only [s1, s2, s3]
    refine tq 1 rfl (fun _ hS => by have c0 := cn hS x0; go_simp; try with_reducible rfl) ?_
    try simp only [s1, s2, s3]
    refine tq 2 rfl (fun _ hS => by go_simp; try with_reducible rfl) ?_
    try simp only [s1, s2, s3]
    refine tq 3 rfl (fun _ hS => by go_simp; try with_reducible rfl) ?_
    try simp only [s1, s2, s3]
    refine tq 4 rfl (fun _ hS => by go_simp; try with_reducible rfl) ?_
    try simp only [s1, s2, s3]
    refine tq 5 rfl (fun _ hS => by have c0 := cn hS x3; have c1 := cn hS x4; have c2 := cn hS x5; have c3 := cn hS x6; go_simp; try with_reducible rfl) ?_
    try simp only [s1, s2, s3]
    refine wpAnyH_ready (rs := [6]) (by kernel_rfl) (by simp) ?_
    refine AllReadyH.cons rfl (fun K hK => ?_) AllReadyH.nil
    go_simp
    go_at_call 179
    refine (OF.out _).mono ?_
    rintro e wn1_1 ⟨rfl, bkn1_1⟩
    have hBn := below_next hBk bkn1_1
    clear hBk bkn1_1
    have hBk := hBn
    clear hBn
    try go_simp
    refine hK.out _ _ ?_ (fun hHeld => ?_)
    · (try dsimp only); exact hBk
    clear hK K
    (try simp only [Act.put, List.setIfInBounds_toArray, List.set_cons_zero, List.set_cons_succ])
    refine tq 7 rfl (fun _ hS => by go_simp; try with_reducible rfl) ?_
    try simp only [s1, s2, s3]
    refine tq 8 rfl (fun _ hS => by go_simp; try with_reducible rfl) ?_
    try simp only [s1, s2, s3]
    refine tq 9 rfl (fun _ hS => by go_simp; try with_reducible rfl) ?_
    try simp only [s1, s2, s3]
    refine wpAnyH_done (by kernel_rfl) ?_ _
    go_wp2
    go_ret
    exact ⟨rfl, below_next B hBk⟩
  · rw [nou_not (r := ⟨k, l, m, s, lo, hi⟩) h1]
    have e1 : (k == 1) = false := by simpa using h1
    clear ES OF h1
    unfold rV
    dsimp only
    go_enter Try.func146, Try.ntmps146
    go_wp2_with fail
    have JX : RC (w.alloc (.cells #[.int .u8 k, .bool l, .int .i64 m, .int .u64 (ub s.1.1), .int .u64 (ub s.1.2), .int .u64 (ub s.2.1), .int .u64 (ub s.2.2), .int .i64 lo, .int .i64 hi] 31)) w.heap.size ⟨k, l, m, s, lo, hi⟩ := RC.new (x := ⟨k, l, m, s, lo, hi⟩) rfl
    have B := bel_alloc (o := .cells #[.int .u8 k, .bool l, .int .i64 m, .int .u64 (ub s.1.1), .int .u64 (ub s.1.2), .int .u64 (ub s.2.1), .int .u64 (ub s.2.2), .int .i64 lo, .int .i64 hi] 31) (Below.refl w.heap.size w)
    generalize w.alloc (.cells #[.int .u8 k, .bool l, .int .i64 m, .int .u64 (ub s.1.1), .int .u64 (ub s.1.2), .int .u64 (ub s.2.1), .int .u64 (ub s.2.2), .int .i64 lo, .int .i64 hi] 31) = u at *
    have x0 := JX.c0
    dsimp only at x0
    refine wp_region_held_drew (S := (fun w' : World => Below u.heap.size u w')) (by kernel_rfl) ?_ (fun hHeld => ?_)
    · (try dsimp only); first | (with_reducible exact below_dr _) | (with_reducible exact Below.refl _ _) | exact below_dr _
    have hBk := below_dr u
    refine tq 0 rfl (fun _ hS => by go_simp; try with_reducible rfl) ?_
    try simp only [s1, s2, s3]
    refine tq 1 rfl (fun _ hS => by have c0 := cn hS x0; go_simp; try with_reducible rfl) ?_
    try simp only [s1, s2, s3]
    refine tq 2 rfl (fun _ hS => by go_simp; try with_reducible rfl) ?_
    try simp only [s1, s2, s3]
    refine tq 3 rfl (fun _ hS => by go_simp; try with_reducible rfl) ?_
    try simp only [s1, s2, s3]
    refine ts 4 rfl ?_
    try simp only [s1, s2, s3]
    refine ts 5 rfl ?_
    try simp only [s1, s2, s3]
    refine ts 6 rfl ?_
    try simp only [s1, s2, s3]
    refine ts 7 rfl ?_
    try simp only [s1, s2, s3]
    refine tq 8 rfl (fun _ hS => by go_simp; try with_reducible rfl) ?_
    try simp only [s1, s2, s3]
    refine tq 9 rfl (fun _ hS => by go_simp; try with_reducible rfl) ?_
    try simp only [s1, s2, s3]
    refine wpAnyH_done (by kernel_rfl) ?_ _
    go_wp2
    go_ret
    exact ⟨rfl, below_next B hBk⟩
end Go.Proofs.Ytoanbjnhoggpjaa

namespace Go.Proofs.Ytoanbjnhoggpjaa
set_option linter.unusedSimpArgs false
set_option linter.unusedVariables false
set_option maxRecDepth 100000
open Go.ChangeShapes Go.WideShapes Go.ChangeAt Go.RowKit Me

set_option maxHeartbeats 4000000 in
theorem in_b0 (a b : Rg) (h : b.k = 0) (w : World) : Calls Try.prog 86 #[rV a, rV b] w fun e w' => e = .returned (.bool (true)) ∧ Below w.heap.size w w' := by
  obtain ⟨ak, al, am, sa, alo, ahi⟩ := a
  obtain ⟨bk, bl, bm, bs, blo, bhi⟩ := b
  dsimp only at h
  subst h
  unfold rV
  dsimp only
  go_enter Try.func86, Try.ntmps86
  go_wp2
  go_ret
  exact ⟨rfl, bel_alloc (bel_alloc (Below.refl _ _))⟩
set_option maxHeartbeats 4000000 in
theorem in_ne (a b : Rg) (h0 : b.k ≠ 0) (h7 : b.k ≠ 7) (hn : a.k ≠ b.k) (w : World) : Calls Try.prog 86 #[rV a, rV b] w fun e w' => e = .returned (.bool (false)) ∧ Below w.heap.size w w' := by
  obtain ⟨ak, al, am, sa, alo, ahi⟩ := a
  obtain ⟨bk, bl, bm, bs, blo, bhi⟩ := b
  dsimp only at h0 h7 hn
  have e0 : (bk == 0) = false := by simpa using h0
  have e7 : (bk == 7) = false := by simpa using h7
  have en : (ak != bk) = true := by simpa using hn
  have ef : (ak == bk) = false := by simpa using hn
  clear h0 h7 hn
  unfold rV
  dsimp only
  go_enter Try.func86, Try.ntmps86
  go_wp2
  go_ret
  exact ⟨rfl, bel_alloc (bel_alloc (Below.refl _ _))⟩
set_option maxHeartbeats 4000000 in
theorem in_7ne (a : Rg) (n : Int) (h1 : a.k ≠ 1) (h6 : a.k ≠ 6) (h7 : a.k ≠ 7) (w : World) : Calls Try.prog 86 #[rV a, rV ⟨7, false, n, sc0, 0, 0⟩] w fun e w' => e = .returned (.bool (false)) ∧ Below w.heap.size w w' := by
  have N := fun W => nou_not h1 ▸ rNought_any a W
  obtain ⟨ak, al, am, sa, alo, ahi⟩ := a
  unfold rV at N
  dsimp only at N h6 h7
  replace N := hid N
  have e6 : (ak == 6) = false := by simpa using h6
  have en : (ak != 7) = true := by simpa using h7
  have e7 : (ak == 7) = false := by simpa using h7
  clear h1 h6 h7
  unfold rV
  dsimp only
  go_enter Try.func86, Try.ntmps86
  go_wp2_with fail
  refine (N.out _).mono ?_
  rintro e w1 ⟨rfl, z⟩
  have JX : RC w1 w.heap.size ⟨ak, al, am, sa, alo, ahi⟩ := ((RC.new (x := ⟨ak, al, am, sa, alo, ahi⟩) rfl).alloc _).below z
  have JY : RC w1 (w.heap.size + 1) ⟨7, false, n, sc0, 0, 0⟩ := (RC.new (x := ⟨7, false, n, sc0, 0, 0⟩) (by simp)).below z
  have B := below_next (bel_alloc (bel_alloc (Below.refl w.heap.size w))) z
  clear z
  have JX0 := JX.c0
  have JX1 := JX.c1
  have JX2 := JX.c2
  have JX3 := JX.c3
  have JX4 := JX.c4
  have JX5 := JX.c5
  have JX6 := JX.c6
  have JX7 := JX.c7
  have JX8 := JX.c8
  have JY0 := JY.c0
  have JY1 := JY.c1
  have JY2 := JY.c2
  have JY3 := JY.c3
  have JY4 := JY.c4
  have JY5 := JY.c5
  have JY6 := JY.c6
  have JY7 := JY.c7
  have JY8 := JY.c8
  dsimp only at JX0 JX1 JX2 JX3 JX4 JX5 JX6 JX7 JX8 JY0 JY1 JY2 JY3 JY4 JY5 JY6 JY7 JY8
  go_wp2
  go_ret
  exact ⟨rfl, B⟩
set_option maxHeartbeats 4000000 in
theorem in_71 (l : Bool) (s : Sc) (n : Int)  (w : World) : Calls Try.prog 86 #[rV ⟨1, l, 0, s, 0, 0⟩, rV ⟨7, false, n, sc0, 0, 0⟩] w fun e w' => e = .returned (.bool (s == ofX 0#64)) ∧ Below w.heap.size w w' := by
  have N := fun W => (nou_num l 0 s 0 0) ▸ rNought_any ⟨1, l, 0, s, 0, 0⟩ W
  unfold rV at N
  dsimp only at N
  generalize (s == ofX 0#64) = q at *
  replace N := hid N
  cases q
  · skip
    unfold rV
    dsimp only
    go_enter Try.func86, Try.ntmps86
    go_wp2_with fail
    refine (N.out _).mono ?_
    rintro e w1 ⟨rfl, z⟩
    have JX : RC w1 w.heap.size ⟨1, l, 0, s, 0, 0⟩ := ((RC.new (x := ⟨1, l, 0, s, 0, 0⟩) rfl).alloc _).below z
    have JY : RC w1 (w.heap.size + 1) ⟨7, false, n, sc0, 0, 0⟩ := (RC.new (x := ⟨7, false, n, sc0, 0, 0⟩) (by simp)).below z
    have B := below_next (bel_alloc (bel_alloc (Below.refl w.heap.size w))) z
    clear z
    have JX0 := JX.c0
    have JX1 := JX.c1
    have JX2 := JX.c2
    have JX3 := JX.c3
    have JX4 := JX.c4
    have JX5 := JX.c5
    have JX6 := JX.c6
    have JX7 := JX.c7
    have JX8 := JX.c8
    have JY0 := JY.c0
    have JY1 := JY.c1
    have JY2 := JY.c2
    have JY3 := JY.c3
    have JY4 := JY.c4
    have JY5 := JY.c5
    have JY6 := JY.c6
    have JY7 := JY.c7
    have JY8 := JY.c8
    dsimp only at JX0 JX1 JX2 JX3 JX4 JX5 JX6 JX7 JX8 JY0 JY1 JY2 JY3 JY4 JY5 JY6 JY7 JY8
    go_wp2
    go_ret
    exact ⟨rfl, B⟩
  · skip
    unfold rV
    dsimp only
    go_enter Try.func86, Try.ntmps86
    go_wp2_with fail
    refine (N.out _).mono ?_
    rintro e w1 ⟨rfl, z⟩
    have JX : RC w1 w.heap.size ⟨1, l, 0, s, 0, 0⟩ := ((RC.new (x := ⟨1, l, 0, s, 0, 0⟩) rfl).alloc _).below z
    have JY : RC w1 (w.heap.size + 1) ⟨7, false, n, sc0, 0, 0⟩ := (RC.new (x := ⟨7, false, n, sc0, 0, 0⟩) (by simp)).below z
    have B := below_next (bel_alloc (bel_alloc (Below.refl w.heap.size w))) z
    clear z
    have JX0 := JX.c0
    have JX1 := JX.c1
    have JX2 := JX.c2
    have JX3 := JX.c3
    have JX4 := JX.c4
    have JX5 := JX.c5
    have JX6 := JX.c6
    have JX7 := JX.c7
    have JX8 := JX.c8
    have JY0 := JY.c0
    have JY1 := JY.c1
    have JY2 := JY.c2
    have JY3 := JY.c3
    have JY4 := JY.c4
    have JY5 := JY.c5
    have JY6 := JY.c6
    have JY7 := JY.c7
    have JY8 := JY.c8
    dsimp only at JX0 JX1 JX2 JX3 JX4 JX5 JX6 JX7 JX8 JY0 JY1 JY2 JY3 JY4 JY5 JY6 JY7 JY8
    go_wp2
    go_ret
    exact ⟨rfl, B⟩
set_option maxHeartbeats 4000000 in
theorem in_77 (m n : Int)  (w : World) : Calls Try.prog 86 #[rV ⟨7, false, m, sc0, 0, 0⟩, rV ⟨7, false, n, sc0, 0, 0⟩] w fun e w' => e = .returned (.bool (m == n)) ∧ Below w.heap.size w w' := by
  have N := fun W => (nou_not (r := ⟨7, false, m, sc0, 0, 0⟩) (by simp)) ▸ rNought_any ⟨7, false, m, sc0, 0, 0⟩ W
  unfold rV at N
  dsimp only at N
  replace N := hid N
  unfold rV
  dsimp only
  go_enter Try.func86, Try.ntmps86
  go_wp2_with fail
  refine (N.out _).mono ?_
  rintro e w1 ⟨rfl, z⟩
  have JX : RC w1 w.heap.size ⟨7, false, m, sc0, 0, 0⟩ := ((RC.new (x := ⟨7, false, m, sc0, 0, 0⟩) rfl).alloc _).below z
  have JY : RC w1 (w.heap.size + 1) ⟨7, false, n, sc0, 0, 0⟩ := (RC.new (x := ⟨7, false, n, sc0, 0, 0⟩) (by simp)).below z
  have B := below_next (bel_alloc (bel_alloc (Below.refl w.heap.size w))) z
  clear z
  have JX0 := JX.c0
  have JX1 := JX.c1
  have JX2 := JX.c2
  have JX3 := JX.c3
  have JX4 := JX.c4
  have JX5 := JX.c5
  have JX6 := JX.c6
  have JX7 := JX.c7
  have JX8 := JX.c8
  have JY0 := JY.c0
  have JY1 := JY.c1
  have JY2 := JY.c2
  have JY3 := JY.c3
  have JY4 := JY.c4
  have JY5 := JY.c5
  have JY6 := JY.c6
  have JY7 := JY.c7
  have JY8 := JY.c8
  dsimp only at JX0 JX1 JX2 JX3 JX4 JX5 JX6 JX7 JX8 JY0 JY1 JY2 JY3 JY4 JY5 JY6 JY7 JY8
  go_wp2
  go_ret
  exact ⟨rfl, B⟩
set_option maxHeartbeats 4000000 in
theorem in_76 (m lo hi n : Int)  (w : World) : Calls Try.prog 86 #[rV ⟨6, false, m, sc0, lo, hi⟩, rV ⟨7, false, n, sc0, 0, 0⟩] w fun e w' => e = .returned (.bool ((m == n) && ((lo == 0) && (hi == 0)))) ∧ Below w.heap.size w w' := by
  have N := fun W => (nou_not (r := ⟨6, false, m, sc0, lo, hi⟩) (by simp)) ▸ rNought_any ⟨6, false, m, sc0, lo, hi⟩ W
  unfold rV at N
  dsimp only at N
  replace N := hid N
  cases h1 : (m == n)
  · rw [Bool.false_and]
    unfold rV
    dsimp only
    go_enter Try.func86, Try.ntmps86
    go_wp2_with fail
    refine (N.out _).mono ?_
    rintro e w1 ⟨rfl, z⟩
    have JX : RC w1 w.heap.size ⟨6, false, m, sc0, lo, hi⟩ := ((RC.new (x := ⟨6, false, m, sc0, lo, hi⟩) rfl).alloc _).below z
    have JY : RC w1 (w.heap.size + 1) ⟨7, false, n, sc0, 0, 0⟩ := (RC.new (x := ⟨7, false, n, sc0, 0, 0⟩) (by simp)).below z
    have B := below_next (bel_alloc (bel_alloc (Below.refl w.heap.size w))) z
    clear z
    have JX0 := JX.c0
    have JX1 := JX.c1
    have JX2 := JX.c2
    have JX3 := JX.c3
    have JX4 := JX.c4
    have JX5 := JX.c5
    have JX6 := JX.c6
    have JX7 := JX.c7
    have JX8 := JX.c8
    have JY0 := JY.c0
    have JY1 := JY.c1
    have JY2 := JY.c2
    have JY3 := JY.c3
    have JY4 := JY.c4
    have JY5 := JY.c5
    have JY6 := JY.c6
    have JY7 := JY.c7
    have JY8 := JY.c8
    dsimp only at JX0 JX1 JX2 JX3 JX4 JX5 JX6 JX7 JX8 JY0 JY1 JY2 JY3 JY4 JY5 JY6 JY7 JY8
    go_wp2
    go_ret
    exact ⟨rfl, B⟩
  cases h2 : (lo == 0)
  · rw [Bool.true_and, Bool.false_and]
    unfold rV
    dsimp only
    go_enter Try.func86, Try.ntmps86
    go_wp2_with fail
    refine (N.out _).mono ?_
    rintro e w1 ⟨rfl, z⟩
    have JX : RC w1 w.heap.size ⟨6, false, m, sc0, lo, hi⟩ := ((RC.new (x := ⟨6, false, m, sc0, lo, hi⟩) rfl).alloc _).below z
    have JY : RC w1 (w.heap.size + 1) ⟨7, false, n, sc0, 0, 0⟩ := (RC.new (x := ⟨7, false, n, sc0, 0, 0⟩) (by simp)).below z
    have B := below_next (bel_alloc (bel_alloc (Below.refl w.heap.size w))) z
    clear z
    have JX0 := JX.c0
    have JX1 := JX.c1
    have JX2 := JX.c2
    have JX3 := JX.c3
    have JX4 := JX.c4
    have JX5 := JX.c5
    have JX6 := JX.c6
    have JX7 := JX.c7
    have JX8 := JX.c8
    have JY0 := JY.c0
    have JY1 := JY.c1
    have JY2 := JY.c2
    have JY3 := JY.c3
    have JY4 := JY.c4
    have JY5 := JY.c5
    have JY6 := JY.c6
    have JY7 := JY.c7
    have JY8 := JY.c8
    dsimp only at JX0 JX1 JX2 JX3 JX4 JX5 JX6 JX7 JX8 JY0 JY1 JY2 JY3 JY4 JY5 JY6 JY7 JY8
    go_wp2
    go_ret
    exact ⟨rfl, B⟩
  cases h3 : (hi == 0)
  · rw [Bool.true_and, Bool.true_and]
    unfold rV
    dsimp only
    go_enter Try.func86, Try.ntmps86
    go_wp2_with fail
    refine (N.out _).mono ?_
    rintro e w1 ⟨rfl, z⟩
    have JX : RC w1 w.heap.size ⟨6, false, m, sc0, lo, hi⟩ := ((RC.new (x := ⟨6, false, m, sc0, lo, hi⟩) rfl).alloc _).below z
    have JY : RC w1 (w.heap.size + 1) ⟨7, false, n, sc0, 0, 0⟩ := (RC.new (x := ⟨7, false, n, sc0, 0, 0⟩) (by simp)).below z
    have B := below_next (bel_alloc (bel_alloc (Below.refl w.heap.size w))) z
    clear z
    have JX0 := JX.c0
    have JX1 := JX.c1
    have JX2 := JX.c2
    have JX3 := JX.c3
    have JX4 := JX.c4
    have JX5 := JX.c5
    have JX6 := JX.c6
    have JX7 := JX.c7
    have JX8 := JX.c8
    have JY0 := JY.c0
    have JY1 := JY.c1
    have JY2 := JY.c2
    have JY3 := JY.c3
    have JY4 := JY.c4
    have JY5 := JY.c5
    have JY6 := JY.c6
    have JY7 := JY.c7
    have JY8 := JY.c8
    dsimp only at JX0 JX1 JX2 JX3 JX4 JX5 JX6 JX7 JX8 JY0 JY1 JY2 JY3 JY4 JY5 JY6 JY7 JY8
    go_wp2
    go_ret
    exact ⟨rfl, B⟩
  · rw [Bool.true_and, Bool.true_and]
    unfold rV
    dsimp only
    go_enter Try.func86, Try.ntmps86
    go_wp2_with fail
    refine (N.out _).mono ?_
    rintro e w1 ⟨rfl, z⟩
    have JX : RC w1 w.heap.size ⟨6, false, m, sc0, lo, hi⟩ := ((RC.new (x := ⟨6, false, m, sc0, lo, hi⟩) rfl).alloc _).below z
    have JY : RC w1 (w.heap.size + 1) ⟨7, false, n, sc0, 0, 0⟩ := (RC.new (x := ⟨7, false, n, sc0, 0, 0⟩) (by simp)).below z
    have B := below_next (bel_alloc (bel_alloc (Below.refl w.heap.size w))) z
    clear z
    have JX0 := JX.c0
    have JX1 := JX.c1
    have JX2 := JX.c2
    have JX3 := JX.c3
    have JX4 := JX.c4
    have JX5 := JX.c5
    have JX6 := JX.c6
    have JX7 := JX.c7
    have JX8 := JX.c8
    have JY0 := JY.c0
    have JY1 := JY.c1
    have JY2 := JY.c2
    have JY3 := JY.c3
    have JY4 := JY.c4
    have JY5 := JY.c5
    have JY6 := JY.c6
    have JY7 := JY.c7
    have JY8 := JY.c8
    dsimp only at JX0 JX1 JX2 JX3 JX4 JX5 JX6 JX7 JX8 JY0 JY1 JY2 JY3 JY4 JY5 JY6 JY7 JY8
    go_wp2
    go_ret
    exact ⟨rfl, B⟩
set_option maxHeartbeats 4000000 in
theorem in_11 (l l' : Bool) (s s' : Sc)  (w : World) : Calls Try.prog 86 #[rV ⟨1, l, 0, s, 0, 0⟩, rV ⟨1, l', 0, s', 0, 0⟩] w fun e w' => e = .returned (.bool (inX s s' && (l || !l'))) ∧ Below w.heap.size w w' := by
  have X := fun W => rInX_any s s' W
  generalize inX s s' = q at *
  unfold sv at X
  replace X := hid X
  cases q
  · rw [Bool.false_and]
    unfold rV
    dsimp only
    go_enter Try.func86, Try.ntmps86
    go_wp2_with fail
    refine (X.out _).mono ?_
    rintro e w1 ⟨rfl, z⟩
    have JX : RC w1 w.heap.size ⟨1, l, 0, s, 0, 0⟩ := ((RC.new (x := ⟨1, l, 0, s, 0, 0⟩) rfl).alloc _).below z
    have JY : RC w1 (w.heap.size + 1) ⟨1, l', 0, s', 0, 0⟩ := (RC.new (x := ⟨1, l', 0, s', 0, 0⟩) (by simp)).below z
    have B := below_next (bel_alloc (bel_alloc (Below.refl w.heap.size w))) z
    clear z
    have JX0 := JX.c0
    have JX1 := JX.c1
    have JX2 := JX.c2
    have JX3 := JX.c3
    have JX4 := JX.c4
    have JX5 := JX.c5
    have JX6 := JX.c6
    have JX7 := JX.c7
    have JX8 := JX.c8
    have JY0 := JY.c0
    have JY1 := JY.c1
    have JY2 := JY.c2
    have JY3 := JY.c3
    have JY4 := JY.c4
    have JY5 := JY.c5
    have JY6 := JY.c6
    have JY7 := JY.c7
    have JY8 := JY.c8
    dsimp only at JX0 JX1 JX2 JX3 JX4 JX5 JX6 JX7 JX8 JY0 JY1 JY2 JY3 JY4 JY5 JY6 JY7 JY8
    go_wp2
    go_ret
    exact ⟨rfl, B⟩
  cases l'
  · rw [Bool.true_and, Bool.not_false, Bool.or_true]
    unfold rV
    dsimp only
    go_enter Try.func86, Try.ntmps86
    go_wp2_with fail
    refine (X.out _).mono ?_
    rintro e w1 ⟨rfl, z⟩
    have JX : RC w1 w.heap.size ⟨1, l, 0, s, 0, 0⟩ := ((RC.new (x := ⟨1, l, 0, s, 0, 0⟩) rfl).alloc _).below z
    have JY : RC w1 (w.heap.size + 1) ⟨1, false, 0, s', 0, 0⟩ := (RC.new (x := ⟨1, false, 0, s', 0, 0⟩) (by simp)).below z
    have B := below_next (bel_alloc (bel_alloc (Below.refl w.heap.size w))) z
    clear z
    have JX0 := JX.c0
    have JX1 := JX.c1
    have JX2 := JX.c2
    have JX3 := JX.c3
    have JX4 := JX.c4
    have JX5 := JX.c5
    have JX6 := JX.c6
    have JX7 := JX.c7
    have JX8 := JX.c8
    have JY0 := JY.c0
    have JY1 := JY.c1
    have JY2 := JY.c2
    have JY3 := JY.c3
    have JY4 := JY.c4
    have JY5 := JY.c5
    have JY6 := JY.c6
    have JY7 := JY.c7
    have JY8 := JY.c8
    dsimp only at JX0 JX1 JX2 JX3 JX4 JX5 JX6 JX7 JX8 JY0 JY1 JY2 JY3 JY4 JY5 JY6 JY7 JY8
    go_wp2
    go_ret
    exact ⟨rfl, B⟩
  · rw [Bool.true_and, Bool.not_true, Bool.or_false]
    unfold rV
    dsimp only
    go_enter Try.func86, Try.ntmps86
    go_wp2_with fail
    refine (X.out _).mono ?_
    rintro e w1 ⟨rfl, z⟩
    have JX : RC w1 w.heap.size ⟨1, l, 0, s, 0, 0⟩ := ((RC.new (x := ⟨1, l, 0, s, 0, 0⟩) rfl).alloc _).below z
    have JY : RC w1 (w.heap.size + 1) ⟨1, true, 0, s', 0, 0⟩ := (RC.new (x := ⟨1, true, 0, s', 0, 0⟩) (by simp)).below z
    have B := below_next (bel_alloc (bel_alloc (Below.refl w.heap.size w))) z
    clear z
    have JX0 := JX.c0
    have JX1 := JX.c1
    have JX2 := JX.c2
    have JX3 := JX.c3
    have JX4 := JX.c4
    have JX5 := JX.c5
    have JX6 := JX.c6
    have JX7 := JX.c7
    have JX8 := JX.c8
    have JY0 := JY.c0
    have JY1 := JY.c1
    have JY2 := JY.c2
    have JY3 := JY.c3
    have JY4 := JY.c4
    have JY5 := JY.c5
    have JY6 := JY.c6
    have JY7 := JY.c7
    have JY8 := JY.c8
    dsimp only at JX0 JX1 JX2 JX3 JX4 JX5 JX6 JX7 JX8 JY0 JY1 JY2 JY3 JY4 JY5 JY6 JY7 JY8
    go_wp2
    go_ret
    exact ⟨rfl, B⟩
set_option maxHeartbeats 4000000 in
theorem in_22   (w : World) : Calls Try.prog 86 #[rV ⟨2, false, 0, sc0, 0, 0⟩, rV ⟨2, false, 0, sc0, 0, 0⟩] w fun e w' => e = .returned (.bool (true)) ∧ Below w.heap.size w w' := by
  unfold rV
  dsimp only
  go_enter Try.func86, Try.ntmps86
  go_wp2
  go_ret
  exact ⟨rfl, bel_alloc (bel_alloc (Below.refl _ _))⟩
set_option maxHeartbeats 4000000 in
theorem in_33 (lo hi lo' hi' : Int)  (w : World) : Calls Try.prog 86 #[rV ⟨3, false, 0, sc0, lo, hi⟩, rV ⟨3, false, 0, sc0, lo', hi'⟩] w fun e w' => e = .returned (.bool (decide (lo' ≤ lo) && decide (hi ≤ hi'))) ∧ Below w.heap.size w w' := by
  cases h1 : decide (lo' ≤ lo)
  · rw [Bool.false_and]
    unfold rV
    dsimp only
    go_enter Try.func86, Try.ntmps86
    go_wp2
    go_ret
    exact ⟨rfl, bel_alloc (bel_alloc (Below.refl _ _))⟩
  · rw [Bool.true_and]
    unfold rV
    dsimp only
    go_enter Try.func86, Try.ntmps86
    go_wp2
    go_ret
    exact ⟨rfl, bel_alloc (bel_alloc (Below.refl _ _))⟩
set_option maxHeartbeats 4000000 in
theorem in_44 (lo hi lo' hi' : Int)  (w : World) : Calls Try.prog 86 #[rV ⟨4, false, 0, sc0, lo, hi⟩, rV ⟨4, false, 0, sc0, lo', hi'⟩] w fun e w' => e = .returned (.bool (decide (lo' ≤ lo) && decide (hi ≤ hi'))) ∧ Below w.heap.size w w' := by
  cases h1 : decide (lo' ≤ lo)
  · rw [Bool.false_and]
    unfold rV
    dsimp only
    go_enter Try.func86, Try.ntmps86
    go_wp2
    go_ret
    exact ⟨rfl, bel_alloc (bel_alloc (Below.refl _ _))⟩
  · rw [Bool.true_and]
    unfold rV
    dsimp only
    go_enter Try.func86, Try.ntmps86
    go_wp2
    go_ret
    exact ⟨rfl, bel_alloc (bel_alloc (Below.refl _ _))⟩
set_option maxHeartbeats 4000000 in
theorem in_55 (m n : Int)  (w : World) : Calls Try.prog 86 #[rV ⟨5, false, m, sc0, 0, 0⟩, rV ⟨5, false, n, sc0, 0, 0⟩] w fun e w' => e = .returned (.bool (m == n)) ∧ Below w.heap.size w w' := by
  unfold rV
  dsimp only
  go_enter Try.func86, Try.ntmps86
  go_wp2
  go_ret
  exact ⟨rfl, bel_alloc (bel_alloc (Below.refl _ _))⟩
set_option maxHeartbeats 4000000 in
theorem in_66 (m lo hi n lo' hi' : Int)  (w : World) : Calls Try.prog 86 #[rV ⟨6, false, m, sc0, lo, hi⟩, rV ⟨6, false, n, sc0, lo', hi'⟩] w fun e w' => e = .returned (.bool ((m == n) && (decide (lo' ≤ lo) && decide (hi ≤ hi')))) ∧ Below w.heap.size w w' := by
  cases h1 : (m == n)
  · rw [Bool.false_and]
    unfold rV
    dsimp only
    go_enter Try.func86, Try.ntmps86
    go_wp2
    go_ret
    exact ⟨rfl, bel_alloc (bel_alloc (Below.refl _ _))⟩
  cases h2 : decide (lo' ≤ lo)
  · rw [Bool.true_and, Bool.false_and]
    unfold rV
    dsimp only
    go_enter Try.func86, Try.ntmps86
    go_wp2
    go_ret
    exact ⟨rfl, bel_alloc (bel_alloc (Below.refl _ _))⟩
  · rw [Bool.true_and, Bool.true_and]
    unfold rV
    dsimp only
    go_enter Try.func86, Try.ntmps86
    go_wp2
    go_ret
    exact ⟨rfl, bel_alloc (bel_alloc (Below.refl _ _))⟩
theorem isM_not {a : Rg} (h1 : a.k ≠ 1) (h6 : a.k ≠ 6) (h7 : a.k ≠ 7) (m : Int) : isM a m = false := by
  unfold isM
  rw [if_neg h1, if_neg (by omega)]
theorem rIn_ne {a b : Rg} (h0 : b.k ≠ 0) (h7 : b.k ≠ 7) (hn : a.k ≠ b.k) : rIn a b = false := by
  unfold rIn
  rw [if_neg h0, if_neg h7, if_pos hn]
theorem rInReg_any (a b : Rg) (ha : Rm a) (hb : Rm b) (w : World) : Calls Try.prog 86 #[rV a, rV b] w fun e w' => e = .returned (.bool (rIn a b)) ∧ Below w.heap.size w w' := by
  by_cases h0 : b.k = 0
  · rw [show rIn a b = true by unfold rIn; rw [if_pos h0]]
    exact in_b0 a b h0 w
  by_cases h7 : b.k = 7
  · cases hb <;> first | (exfalso; first | exact h0 rfl | (dsimp only at h7; omega)) | skip
    rename_i n hn
    rw [show rIn a ⟨7, false, n, sc0, 0, 0⟩ = isM a n by unfold rIn; simp]
    cases ha with
    | none => rw [isM_not (by decide) (by decide) (by decide)]; exact in_7ne r0 n (by decide) (by decide) (by decide) w
    | num l s h1 h2 => rw [show isM ⟨1, l, 0, s, 0, 0⟩ n = (s == ofX 0#64) by unfold isM; simp [sc_beq]]; exact in_71 l s n w
    | ctx => rw [isM_not (by decide) (by decide) (by decide)]; exact in_7ne _ n (by decide) (by decide) (by decide) w
    | far k lo hi hk h1 h2 h3 => rw [isM_not (by dsimp only; omega) (by dsimp only; omega) (by dsimp only; omega)]; exact in_7ne _ n (by dsimp only; omega) (by dsimp only; omega) (by dsimp only; omega) w
    | ref m h1 => rw [isM_not (by simp) (by simp) (by simp)]; exact in_7ne _ n (by simp) (by simp) (by simp) w
    | maybe m h1 => rw [show isM ⟨7, false, m, sc0, 0, 0⟩ n = (m == n) by unfold isM rB; rw [Bool.eq_iff_iff]; simp]; exact in_77 m n w
    | cell m lo hi h1 h2 h3 h4 => rw [show isM ⟨6, false, m, sc0, lo, hi⟩ n = ((m == n) && ((lo == 0) && (hi == 0))) by unfold isM rB; rw [Bool.eq_iff_iff]; simp]; exact in_76 m lo hi n w
  by_cases hn : a.k = b.k
  · cases hb with
    | none => exact absurd rfl h0
    | num l' s' g1 g2 =>
      cases ha <;> first | (exfalso; dsimp only [r0] at hn; omega) | skip
      rename_i l s h1 h2
      rw [show rIn ⟨1, l, 0, s, 0, 0⟩ ⟨1, l', 0, s', 0, 0⟩ = (inX s s' && (l || !l')) by unfold rIn; simp]
      exact in_11 l l' s s' w
    | ctx =>
      cases ha <;> first | (exfalso; dsimp only [r0] at hn; omega) | skip
      rw [show rIn ⟨2, false, 0, sc0, 0, 0⟩ ⟨2, false, 0, sc0, 0, 0⟩ = true by decide]
      exact in_22 w
    | far k' lo' hi' hk' g1 g2 g3 =>
      cases ha <;> first | (exfalso; dsimp only [r0] at hn; omega) | skip
      rename_i k lo hi hk h1 h2 h3
      obtain rfl : k = k' := hn
      rw [show rIn ⟨k, false, 0, sc0, lo, hi⟩ ⟨k, false, 0, sc0, lo', hi'⟩ = (decide (lo' ≤ lo) && decide (hi ≤ hi')) by unfold rIn; dsimp only; rw [if_neg h0, if_neg h7, if_neg (by simp), if_neg (by omega)]; simp]
      rcases hk with rfl | rfl
      · exact in_33 lo hi lo' hi' w
      · exact in_44 lo hi lo' hi' w
    | ref n g1 =>
      cases ha <;> first | (exfalso; dsimp only [r0] at hn; omega) | skip
      rename_i m h1
      rw [show rIn ⟨5, false, m, sc0, 0, 0⟩ ⟨5, false, n, sc0, 0, 0⟩ = (m == n) by unfold rIn; simp]
      exact in_55 m n w
    | maybe n g1 => exact absurd rfl h7
    | cell n lo' hi' g1 g2 g3 g4 =>
      cases ha <;> first | (exfalso; dsimp only [r0] at hn; omega) | skip
      rename_i m lo hi h1 h2 h3 h4
      rw [show rIn ⟨6, false, m, sc0, lo, hi⟩ ⟨6, false, n, sc0, lo', hi'⟩ = ((m == n) && (decide (lo' ≤ lo) && decide (hi ≤ hi'))) by unfold rIn; simp]
      exact in_66 m lo hi n lo' hi' w
  · rw [rIn_ne h0 h7 hn]
    exact in_ne a b h0 h7 hn w
end Go.Proofs.Ytoanbjnhoggpjaa

namespace Go.Proofs.Ytoanbjnhoggpjaa
set_option linter.unusedSimpArgs false
set_option linter.unusedVariables false
set_option maxRecDepth 100000
open Go.ChangeShapes Go.WideShapes Go.ChangeAt Go.RowKit Me

theorem bit8_all : ∀ x : Fin 256, ∀ j : Fin 8, (bits .and .u8 ((x.val : Int) / 2 ^ j.val) 1 == 1) = (BitVec.ofNat 8 x.val).getLsbD j.val := by decide +kernel
theorem bit8 (h : B8) (j : Nat) (hj : j < 8) : (bits .and .u8 (vb h / 2 ^ j) 1 == 1) = h.getLsbD j := by
  have := bit8_all ⟨h.toNat, h.isLt⟩ ⟨j, hj⟩
  dsimp only at this
  rw [show BitVec.ofNat 8 h.toNat = h by simp] at this
  exact this
theorem ones8 (j : Nat) (hj : j < 8) : (255#8).getLsbD j = true := by
  have : ∀ i : Fin 8, (255#8).getLsbD i.val = true := by decide
  exact this ⟨j, hj⟩
set_option maxHeartbeats 4000000 in
theorem rSure_any (x : Sk) (j : Nat) (hj : j < 8) (w : World) : Calls Try.prog 148 #[kV x, .int .i64 j] w fun e w' => e = .returned (.bool ((sure x).getLsbD j)) ∧ Below w.heap.size w w' := by
  obtain ⟨h, k, l, m, s, lo, hi⟩ := x
  have hb := bit8 h j hj
  have hj0 : (0 : Int) ≤ j := by omega
  have hj8 : (j : Int) < 8 := by omega
  unfold sure
  dsimp only
  by_cases h1 : k = 1
  · subst h1
    rw [if_neg (by decide), if_pos rfl, ones8 j hj]
    clear hb
    unfold kV
    dsimp only
    go_enter Try.func148, Try.ntmps148
    go_wp2
    go_ret
    exact ⟨rfl, bel_alloc (Below.refl _ _)⟩
  by_cases h0 : k = 0
  · subst h0
    rw [if_pos rfl]
    generalize h.getLsbD j = q at *
    clear h1
    unfold kV
    dsimp only
    go_enter Try.func148, Try.ntmps148
    go_wp2
    go_ret
    exact ⟨rfl, bel_alloc (Below.refl _ _)⟩
  · rw [if_neg h0, if_neg h1]
    have e0 : (k == 0) = false := by simpa using h0
    have e1 : (k == 1) = false := by simpa using h1
    rw [show (0#8).getLsbD j = false by simp]
    clear h0 h1 hb
    unfold kV
    dsimp only
    go_enter Try.func148, Try.ntmps148
    go_wp2
    go_ret
    exact ⟨rfl, bel_alloc (Below.refl _ _)⟩
theorem sub8_at (x y : B8) : sub8 x y = true ↔ ∀ j, j < 8 → x.getLsbD j = true → y.getLsbD j = true := sub8_bits x y
structure KI (w : World) (a b : Sk) (wr : World) : Prop where
  ja : KC wr w.heap.size a
  jb : KC wr (w.heap.size + 1) b
  bel : Below w.heap.size w wr
theorem KI.next {w wr w' : World} {a b : Sk} (h : KI w a b wr) (z : Below wr.heap.size wr w') : KI w a b w' := ⟨h.ja.below z, h.jb.below z, below_next h.bel z⟩
theorem KI.new (w : World) (a b : Sk) : KI w a b ((w.alloc (.cells #[.int .u8 (vb a.h), .int .u8 a.r.k, .bool a.r.l, .int .i64 a.r.m, .int .u64 (ub a.r.s.1.1), .int .u64 (ub a.r.s.1.2), .int .u64 (ub a.r.s.2.1), .int .u64 (ub a.r.s.2.2), .int .i64 a.r.lo, .int .i64 a.r.hi] 34)).alloc (.cells #[.int .u8 (vb b.h), .int .u8 b.r.k, .bool b.r.l, .int .i64 b.r.m, .int .u64 (ub b.r.s.1.1), .int .u64 (ub b.r.s.1.2), .int .u64 (ub b.r.s.2.1), .int .u64 (ub b.r.s.2.2), .int .i64 b.r.lo, .int .i64 b.r.hi] 34)) :=
  ⟨(KC.new (x := a) rfl).alloc _, KC.new (x := b) (by simp), bel_alloc (bel_alloc (Below.refl _ _))⟩
set_option maxHeartbeats 16000000 in
theorem inS_0 (a b : Sk) (h0 : b.r.k = 0) (w : World) : Calls Try.prog 87 #[kV a, kV b] w fun e w' => e = .returned (.bool (sub8 b.h (sure a))) ∧ Below w.heap.size w w' := by
  have SU := hid (fun (j : Nat) (hj : j < 8) W => rSure_any a j hj W)
  have BT := hid (fun (j : Nat) (hj : j < 8) => bit8 b.h j hj)
  unfold kV at SU ⊢
  have H0 := hid h0
  clear h0
  go_enter Try.func87, Try.ntmps87
  refine wp_seq ?_
  refine Code.wp_mono (Q := CutX fun a' W' => KI w a b W' ∧ a' = ⟨#[.agg #[.int .u8 (vb a.h), .int .u8 a.r.k, .bool a.r.l, .int .i64 a.r.m, .int .u64 (ub a.r.s.1.1), .int .u64 (ub a.r.s.1.2), .int .u64 (ub a.r.s.2.1), .int .u64 (ub a.r.s.2.2), .int .i64 a.r.lo, .int .i64 a.r.hi], .agg #[.int .u8 (vb b.h), .int .u8 b.r.k, .bool b.r.l, .int .i64 b.r.m, .int .u64 (ub b.r.s.1.1), .int .u64 (ub b.r.s.1.2), .int .u64 (ub b.r.s.2.1), .int .u64 (ub b.r.s.2.2), .int .i64 b.r.lo, .int .i64 b.r.hi], .pointer (some ⟨w.heap.size, 0, none⟩), .pointer (some ⟨w.heap.size + 1, 0, none⟩), .bool false, undef, undef, undef, undef, undef, undef, undef, undef, undef, undef, undef, undef, undef, undef, undef, undef, undef, undef, undef, undef, undef, undef, undef, undef, undef, undef, undef, undef, undef, undef, undef, undef, undef, undef, undef, undef, undef, undef, undef, undef, undef, undef, undef, undef, undef, undef, undef, undef, undef, undef, undef, undef], []⟩) (CutX.imp ?_) ?_
  rotate_left
  · go_wp2
    exact ⟨KI.new w a b, rfl⟩
  rintro a' w1 ⟨I, rfl⟩
  have y1 := I.jb.c1
  rw [H0.out] at y1
  have hI := hid I
  clear I
  go_wp2_with fail
  clear y1
  go_loopw [5] (fun i w' => ∃ k : Nat, k ≤ 8 ∧ i = .int .i64 k ∧ Hid (∀ j, j < k → b.h.getLsbD j = true → (sure a).getLsbD j = true) ∧ Hid (KI w a b w')) (fun i _ => 8 - (intOf i).toNat)
  case atStart => exact ⟨0, by omega, rfl, hid (fun j hj => by omega), hI⟩
  case round =>
    obtain ⟨k, hk, rfl, hP, hI⟩ := hrel
    by_cases hlt : k < 8
    · have hlt' : (k : Int) < 8 := by omega
      have hk0 : (0 : Int) ≤ k := by omega
      have y0 := hI.out.jb.c0
      have bt := BT.out k hlt
      have HS := hid (SU.out k hlt)
      cases hq : b.h.getLsbD k
      · rw [hq] at bt
        have hq2 := hid hq
        clear hq
        go_wp2
        go_roundw
        case rel => first | exact ⟨k + 1, by omega, by go_num, hid (fun i hi => (Nat.lt_succ_iff_lt_or_eq.1 hi).elim (fun q => hP.out i q) (fun q => q ▸ fun e => absurd (hq2.out.symm.trans e) (by decide))), hI⟩ | ((repeat apply Exists.intro); exact ⟨⟨k + 1, by omega, by go_num, hid (fun i hi => (Nat.lt_succ_iff_lt_or_eq.1 hi).elim (fun q => hP.out i q) (fun q => q ▸ fun e => absurd (hq2.out.symm.trans e) (by decide))), hI⟩, rfl⟩)
        case measure => simp [intOf]; omega
      · rw [hq] at bt
        have hq2 := hid hq
        clear hq
        have x0 := hI.out.ja.c0
        have x1 := hI.out.ja.c1
        have x2 := hI.out.ja.c2
        have x3 := hI.out.ja.c3
        have x4 := hI.out.ja.c4
        have x5 := hI.out.ja.c5
        have x6 := hI.out.ja.c6
        have x7 := hI.out.ja.c7
        have x8 := hI.out.ja.c8
        have x9 := hI.out.ja.c9
        go_wp2_with fail
        refine (HS.out _).mono ?_
        rintro e w2 ⟨rfl, z⟩
        clear x0 x1 x2 x3 x4 x5 x6 x7 x8 x9 y0
        have hI2 := hid (hI.out.next z)
        clear z
        cases hs : (sure a).getLsbD k
        · have hs2 := hid hs
          clear hs
          go_wp2
          go_ret
          refine ⟨Me.ret_val ?_, hI2.out.bel⟩
          have : sub8 b.h (sure a) = false := by
            cases e : sub8 b.h (sure a)
            · rfl
            · exact absurd (((sub8_at _ _).1 e k hlt hq2.out).symm.trans hs2.out) (by decide)
          rw [this]
          rfl
        · have hs2 := hid hs
          clear hs
          go_wp2
          go_roundw
          case rel => first | exact ⟨k + 1, by omega, by go_num, hid (fun i hi => (Nat.lt_succ_iff_lt_or_eq.1 hi).elim (fun q => hP.out i q) (fun q => q ▸ fun _ => hs2.out)), hI2⟩ | ((repeat apply Exists.intro); exact ⟨⟨k + 1, by omega, by go_num, hid (fun i hi => (Nat.lt_succ_iff_lt_or_eq.1 hi).elim (fun q => hP.out i q) (fun q => q ▸ fun _ => hs2.out)), hI2⟩, rfl⟩)
          case measure => simp [intOf]; omega
    · have hk8 : k = 8 := by omega
      subst hk8
      have : sub8 b.h (sure a) = true := (sub8_at _ _).2 fun j hj e => hP.out j hj e
      have hT := hid this
      clear hP hlt hk this
      go_wp2
      go_ret
      refine ⟨Me.ret_val ?_, hI.out.bel⟩
      rw [hT.out]
      rfl
set_option maxHeartbeats 16000000 in
theorem inS_1 (a b : Sk) (hb : Rm b.r) (h0 : b.r.k ≠ 0) (h1 : a.r.k = 0) (w : World) : Calls Try.prog 87 #[kV a, kV b] w fun e w' => e = .returned (.bool ((a.h == 255#8) && rB b.r anyR)) ∧ Below w.heap.size w w' := by
  have AL := hid (fun W => rAllX_any W)
  have ES := hid (fun W => eq_sc b.r.s allX W)
  have hc : (vb a.h == 255) = (a.h == 255#8) := vb_eqi a.h 255#8
  have hv : rB b.r anyR = (decide (b.r.k = 1) && (!b.r.l && (b.r.s == allX))) := by
    unfold anyR
    generalize b.r = r at hb h0
    cases hb <;> (unfold rB; rw [Bool.eq_iff_iff]; simp)
    all_goals first | done | exact absurd rfl h0 | (intro e; omega) | (intros; omega)
  rw [hv]
  clear hv hb
  have H1 := hid h1
  clear h1
  have y0' : (b.r.k == 0) = false := by simpa using h0
  generalize (a.h == 255#8) = q1 at *
  unfold sv at AL ES
  generalize (b.r.s == allX) = q3 at *
  generalize allX = Y at *
  unfold kV
  go_enter Try.func87, Try.ntmps87
  refine wp_seq ?_
  refine Code.wp_mono (Q := CutX fun a' W' => KI w a b W' ∧ a' = ⟨#[.agg #[.int .u8 (vb a.h), .int .u8 a.r.k, .bool a.r.l, .int .i64 a.r.m, .int .u64 (ub a.r.s.1.1), .int .u64 (ub a.r.s.1.2), .int .u64 (ub a.r.s.2.1), .int .u64 (ub a.r.s.2.2), .int .i64 a.r.lo, .int .i64 a.r.hi], .agg #[.int .u8 (vb b.h), .int .u8 b.r.k, .bool b.r.l, .int .i64 b.r.m, .int .u64 (ub b.r.s.1.1), .int .u64 (ub b.r.s.1.2), .int .u64 (ub b.r.s.2.1), .int .u64 (ub b.r.s.2.2), .int .i64 b.r.lo, .int .i64 b.r.hi], .pointer (some ⟨w.heap.size, 0, none⟩), .pointer (some ⟨w.heap.size + 1, 0, none⟩), .bool false, undef, undef, undef, undef, undef, undef, undef, undef, undef, undef, undef, undef, undef, undef, undef, undef, undef, undef, undef, undef, undef, undef, undef, undef, undef, undef, undef, undef, undef, undef, undef, undef, undef, undef, undef, undef, undef, undef, undef, undef, undef, undef, undef, undef, undef, undef, undef, undef, undef, undef, undef, undef], []⟩) (CutX.imp ?_) ?_
  rotate_left
  · go_wp2
    exact ⟨KI.new w a b, rfl⟩
  rintro a' w1 ⟨I, rfl⟩
  cases q1
  · rw [Bool.false_and]
    clear ES
    have x0 := I.ja.c0
    have x1 := I.ja.c1
    have y1 := I.jb.c1
    have y2 := I.jb.c2
    have y4 := I.jb.c4
    have y5 := I.jb.c5
    have y6 := I.jb.c6
    have y7 := I.jb.c7
    rw [H1.out] at x1
    go_wp2_with fail
    refine wp_region_held_drew (S := (fun w' : World => Below w1.heap.size w1 w')) (by kernel_rfl) ?_ (fun hHeld => ?_)
    · (try dsimp only); first | (with_reducible exact below_dr _) | (with_reducible exact Below.refl _ _) | exact below_dr _
    have hBk := below_dr w1
    refine tq 0 rfl (fun _ hS => by go_simp; try with_reducible rfl) ?_
    try simp only [s1, s2, s3]
    refine tq 1 rfl (fun _ hS => by have c0 := cn hS x0; go_simp; try with_reducible rfl) ?_
    try simp only [s1, s2, s3]
    refine tq 2 rfl (fun _ hS => by go_simp; try with_reducible rfl) ?_
    try simp only [s1, s2, s3]
    refine tq 3 rfl (fun _ hS => by go_simp; try with_reducible rfl) ?_
    try simp only [s1, s2, s3]
    refine ts 4 rfl ?_
    try simp only [s1, s2, s3]
    refine ts 5 rfl ?_
    try simp only [s1, s2, s3]
    refine ts 6 rfl ?_
    try simp only [s1, s2, s3]
    refine ts 7 rfl ?_
    try simp only [s1, s2, s3]
    refine tq 8 rfl (fun _ hS => by go_simp; try with_reducible rfl) ?_
    try simp only [s1, s2, s3]
    refine tq 9 rfl (fun _ hS => by go_simp; try with_reducible rfl) ?_
    try simp only [s1, s2, s3]
    refine ts 10 rfl ?_
    try simp only [s1, s2, s3]
    refine ts 11 rfl ?_
    try simp only [s1, s2, s3]
    refine ts 12 rfl ?_
    try simp only [s1, s2, s3]
    refine ts 13 rfl ?_
    try simp only [s1, s2, s3]
    refine tq 14 rfl (fun _ hS => by go_simp; try with_reducible rfl) ?_
    try simp only [s1, s2, s3]
    refine tq 15 rfl (fun _ hS => by go_simp; try with_reducible rfl) ?_
    try simp only [s1, s2, s3]
    refine ts 16 rfl ?_
    try simp only [s1, s2, s3]
    refine ts 17 rfl ?_
    try simp only [s1, s2, s3]
    refine ts 18 rfl ?_
    try simp only [s1, s2, s3]
    refine ts 19 rfl ?_
    try simp only [s1, s2, s3]
    refine ts 20 rfl ?_
    try simp only [s1, s2, s3]
    refine tq 21 rfl (fun _ hS => by go_simp; try with_reducible rfl) ?_
    try simp only [s1, s2, s3]
    refine tq 22 rfl (fun _ hS => by go_simp; try with_reducible rfl) ?_
    try simp only [s1, s2, s3]
    refine wpAnyH_done (by kernel_rfl) ?_ _
    go_wp2
    go_ret
    exact ⟨by first | rfl | simp, below_next I.bel hBk⟩
  · rw [Bool.true_and]
    by_cases hk : b.r.k = 1
    · rw [decide_eq_true hk, Bool.true_and]
      have hk1 : (1 : Int) = 1 := rfl
      cases hl : b.r.l
      · rw [Bool.not_false, Bool.true_and]
        have ES := ES.out
        clear hk1 h0 y0'
        have y0' : ((1 : Int) == 0) = false := by decide
        have hk9 := hid hk
        have x0 := I.ja.c0
        have x1 := I.ja.c1
        have y1 := I.jb.c1
        have y2 := I.jb.c2
        rw [hl] at y2
        have y4 := I.jb.c4
        have y5 := I.jb.c5
        have y6 := I.jb.c6
        have y7 := I.jb.c7
        rw [H1.out] at x1
        rw [hk] at y1
        have hkh := hid hk
        clear hk
        go_wp2_with fail
        refine wp_region_held_drew (S := (fun w' : World => Below w1.heap.size w1 w')) (by kernel_rfl) ?_ (fun hHeld => ?_)
        · (try dsimp only); first | (with_reducible exact below_dr _) | (with_reducible exact Below.refl _ _) | exact below_dr _
        have hBk := below_dr w1
        refine tq 0 rfl (fun _ hS => by go_simp; try with_reducible rfl) ?_
        try simp only [s1, s2, s3]
        refine tq 1 rfl (fun _ hS => by have c0 := cn hS x0; go_simp; try with_reducible rfl) ?_
        try simp only [s1, s2, s3]
        refine tq 2 rfl (fun _ hS => by go_simp; try with_reducible rfl) ?_
        try simp only [s1, s2, s3]
        refine tq 3 rfl (fun _ hS => by go_simp; try with_reducible rfl) ?_
        try simp only [s1, s2, s3]
        refine tq 4 rfl (fun _ hS => by go_simp; try with_reducible rfl) ?_
        try simp only [s1, s2, s3]
        refine tq 5 rfl (fun _ hS => by go_simp; try with_reducible rfl) ?_
        try simp only [s1, s2, s3]
        refine tq 6 rfl (fun _ hS => by have c0 := cn hS y1; go_simp; try with_reducible rfl) ?_
        try simp only [s1, s2, s3]
        refine tq 7 rfl (fun _ hS => by go_simp; try with_reducible rfl) ?_
        try simp only [s1, s2, s3]
        refine tq 8 rfl (fun _ hS => by go_simp; try with_reducible rfl) ?_
        try simp only [s1, s2, s3]
        refine tq 9 rfl (fun _ hS => by go_simp; try with_reducible rfl) ?_
        try simp only [s1, s2, s3]
        refine tq 10 rfl (fun _ hS => by go_simp; try with_reducible rfl) ?_
        try simp only [s1, s2, s3]
        refine tq 11 rfl (fun _ hS => by go_simp; try with_reducible rfl) ?_
        try simp only [s1, s2, s3]
        refine tq 12 rfl (fun _ hS => by have c0 := cn hS y2; go_simp; try with_reducible rfl) ?_
        try simp only [s1, s2, s3]
        refine tq 13 rfl (fun _ hS => by go_simp; try with_reducible rfl) ?_
        try simp only [s1, s2, s3]
        refine tq 14 rfl (fun _ hS => by go_simp; try with_reducible rfl) ?_
        try simp only [s1, s2, s3]
        refine tq 15 rfl (fun _ hS => by go_simp; try with_reducible rfl) ?_
        try simp only [s1, s2, s3]
        refine tq 16 rfl (fun _ hS => by go_simp; try with_reducible rfl) ?_
        try simp only [s1, s2, s3]
        refine tq 17 rfl (fun _ hS => by go_simp; try with_reducible rfl) ?_
        try simp only [s1, s2, s3]
        refine tq 18 rfl (fun _ hS => by have c0 := cn hS y4; have c1 := cn hS y5; have c2 := cn hS y6; have c3 := cn hS y7; go_simp; try with_reducible rfl) ?_
        try simp only [s1, s2, s3]
        refine wpAnyH_ready (rs := [19]) (by kernel_rfl) (by simp) ?_
        refine AllReadyH.cons rfl (fun K hK => ?_) AllReadyH.nil
        go_simp
        go_at_call 149
        refine (AL.out _).mono ?_
        rintro e wv2_1 ⟨rfl, bkv2_1⟩
        have hBn := below_next hBk bkv2_1
        clear hBk bkv2_1
        have hBk := hBn
        clear hBn
        try go_simp
        refine hK.out _ _ ?_ (fun hHeld => ?_)
        · (try dsimp only); exact hBk
        clear hK K
        (try simp only [Act.put, List.setIfInBounds_toArray, List.set_cons_zero, List.set_cons_succ])
        refine tq 20 rfl (fun _ hS => by go_simp; try with_reducible rfl) ?_
        try simp only [s1, s2, s3]
        refine tq 21 rfl (fun _ hS => by go_simp; try with_reducible rfl) ?_
        try simp only [s1, s2, s3]
        refine tq 22 rfl (fun _ hS => by go_simp; try with_reducible rfl) ?_
        try simp only [s1, s2, s3]
        refine wpAnyH_done (by kernel_rfl) ?_ _
        go_wp2
        go_ret
        exact ⟨by first | rfl | simp, below_next I.bel hBk⟩
      · rw [Bool.not_true, Bool.false_and]
        clear ES
        clear hk1 h0 y0'
        have y0' : ((1 : Int) == 0) = false := by decide
        have hk9 := hid hk
        have x0 := I.ja.c0
        have x1 := I.ja.c1
        have y1 := I.jb.c1
        have y2 := I.jb.c2
        rw [hl] at y2
        have y4 := I.jb.c4
        have y5 := I.jb.c5
        have y6 := I.jb.c6
        have y7 := I.jb.c7
        rw [H1.out] at x1
        rw [hk] at y1
        have hkh := hid hk
        clear hk
        go_wp2_with fail
        refine wp_region_held_drew (S := (fun w' : World => Below w1.heap.size w1 w')) (by kernel_rfl) ?_ (fun hHeld => ?_)
        · (try dsimp only); first | (with_reducible exact below_dr _) | (with_reducible exact Below.refl _ _) | exact below_dr _
        have hBk := below_dr w1
        refine tq 0 rfl (fun _ hS => by go_simp; try with_reducible rfl) ?_
        try simp only [s1, s2, s3]
        refine tq 1 rfl (fun _ hS => by have c0 := cn hS x0; go_simp; try with_reducible rfl) ?_
        try simp only [s1, s2, s3]
        refine tq 2 rfl (fun _ hS => by go_simp; try with_reducible rfl) ?_
        try simp only [s1, s2, s3]
        refine tq 3 rfl (fun _ hS => by go_simp; try with_reducible rfl) ?_
        try simp only [s1, s2, s3]
        refine tq 4 rfl (fun _ hS => by go_simp; try with_reducible rfl) ?_
        try simp only [s1, s2, s3]
        refine tq 5 rfl (fun _ hS => by go_simp; try with_reducible rfl) ?_
        try simp only [s1, s2, s3]
        refine tq 6 rfl (fun _ hS => by have c0 := cn hS y1; go_simp; try with_reducible rfl) ?_
        try simp only [s1, s2, s3]
        refine tq 7 rfl (fun _ hS => by go_simp; try with_reducible rfl) ?_
        try simp only [s1, s2, s3]
        refine tq 8 rfl (fun _ hS => by go_simp; try with_reducible rfl) ?_
        try simp only [s1, s2, s3]
        refine tq 9 rfl (fun _ hS => by go_simp; try with_reducible rfl) ?_
        try simp only [s1, s2, s3]
        refine tq 10 rfl (fun _ hS => by go_simp; try with_reducible rfl) ?_
        try simp only [s1, s2, s3]
        refine tq 11 rfl (fun _ hS => by go_simp; try with_reducible rfl) ?_
        try simp only [s1, s2, s3]
        refine tq 12 rfl (fun _ hS => by have c0 := cn hS y2; go_simp; try with_reducible rfl) ?_
        try simp only [s1, s2, s3]
        refine tq 13 rfl (fun _ hS => by go_simp; try with_reducible rfl) ?_
        try simp only [s1, s2, s3]
        refine tq 14 rfl (fun _ hS => by go_simp; try with_reducible rfl) ?_
        try simp only [s1, s2, s3]
        refine tq 15 rfl (fun _ hS => by go_simp; try with_reducible rfl) ?_
        try simp only [s1, s2, s3]
        refine ts 16 rfl ?_
        try simp only [s1, s2, s3]
        refine ts 17 rfl ?_
        try simp only [s1, s2, s3]
        refine ts 18 rfl ?_
        try simp only [s1, s2, s3]
        refine ts 19 rfl ?_
        try simp only [s1, s2, s3]
        refine ts 20 rfl ?_
        try simp only [s1, s2, s3]
        refine tq 21 rfl (fun _ hS => by go_simp; try with_reducible rfl) ?_
        try simp only [s1, s2, s3]
        refine tq 22 rfl (fun _ hS => by go_simp; try with_reducible rfl) ?_
        try simp only [s1, s2, s3]
        refine wpAnyH_done (by kernel_rfl) ?_ _
        go_wp2
        go_ret
        exact ⟨by first | rfl | simp, below_next I.bel hBk⟩
    · rw [decide_eq_false hk, Bool.false_and]
      clear ES
      have e1 : (b.r.k == 1) = false := by simpa using hk
      clear h0
      have x0 := I.ja.c0
      have x1 := I.ja.c1
      have y1 := I.jb.c1
      have y2 := I.jb.c2
      have y4 := I.jb.c4
      have y5 := I.jb.c5
      have y6 := I.jb.c6
      have y7 := I.jb.c7
      rw [H1.out] at x1
      go_wp2_with fail
      refine wp_region_held_drew (S := (fun w' : World => Below w1.heap.size w1 w')) (by kernel_rfl) ?_ (fun hHeld => ?_)
      · (try dsimp only); first | (with_reducible exact below_dr _) | (with_reducible exact Below.refl _ _) | exact below_dr _
      have hBk := below_dr w1
      refine tq 0 rfl (fun _ hS => by go_simp; try with_reducible rfl) ?_
      try simp only [s1, s2, s3]
      refine tq 1 rfl (fun _ hS => by have c0 := cn hS x0; go_simp; try with_reducible rfl) ?_
      try simp only [s1, s2, s3]
      refine tq 2 rfl (fun _ hS => by go_simp; try with_reducible rfl) ?_
      try simp only [s1, s2, s3]
      refine tq 3 rfl (fun _ hS => by go_simp; try with_reducible rfl) ?_
      try simp only [s1, s2, s3]
      refine tq 4 rfl (fun _ hS => by go_simp; try with_reducible rfl) ?_
      try simp only [s1, s2, s3]
      refine tq 5 rfl (fun _ hS => by go_simp; try with_reducible rfl) ?_
      try simp only [s1, s2, s3]
      refine tq 6 rfl (fun _ hS => by have c0 := cn hS y1; go_simp; try with_reducible rfl) ?_
      try simp only [s1, s2, s3]
      refine tq 7 rfl (fun _ hS => by go_simp; try with_reducible rfl) ?_
      try simp only [s1, s2, s3]
      refine tq 8 rfl (fun _ hS => by go_simp; try with_reducible rfl) ?_
      try simp only [s1, s2, s3]
      refine tq 9 rfl (fun _ hS => by go_simp; try with_reducible rfl) ?_
      try simp only [s1, s2, s3]
      refine ts 10 rfl ?_
      try simp only [s1, s2, s3]
      refine ts 11 rfl ?_
      try simp only [s1, s2, s3]
      refine ts 12 rfl ?_
      try simp only [s1, s2, s3]
      refine ts 13 rfl ?_
      try simp only [s1, s2, s3]
      refine tq 14 rfl (fun _ hS => by go_simp; try with_reducible rfl) ?_
      try simp only [s1, s2, s3]
      refine tq 15 rfl (fun _ hS => by go_simp; try with_reducible rfl) ?_
      try simp only [s1, s2, s3]
      refine ts 16 rfl ?_
      try simp only [s1, s2, s3]
      refine ts 17 rfl ?_
      try simp only [s1, s2, s3]
      refine ts 18 rfl ?_
      try simp only [s1, s2, s3]
      refine ts 19 rfl ?_
      try simp only [s1, s2, s3]
      refine ts 20 rfl ?_
      try simp only [s1, s2, s3]
      refine tq 21 rfl (fun _ hS => by go_simp; try with_reducible rfl) ?_
      try simp only [s1, s2, s3]
      refine tq 22 rfl (fun _ hS => by go_simp; try with_reducible rfl) ?_
      try simp only [s1, s2, s3]
      refine wpAnyH_done (by kernel_rfl) ?_ _
      go_wp2
      go_ret
      exact ⟨by first | rfl | simp, below_next I.bel hBk⟩
set_option maxHeartbeats 16000000 in
theorem inS_2 (a b : Sk) (ha : Rm a.r) (hb : Rm b.r) (h0 : b.r.k ≠ 0) (h1 : a.r.k ≠ 0) (w : World) : Calls Try.prog 87 #[kV a, kV b] w fun e w' => e = .returned (.bool (rIn a.r b.r)) ∧ Below w.heap.size w w' := by
  have IR := fun W => rInReg_any a.r b.r ha hb W
  generalize rIn a.r b.r = q at *
  have e0 : (b.r.k == 0) = false := by simpa using h0
  have e1 : (a.r.k == 0) = false := by simpa using h1
  clear h0 h1 ha hb
  unfold rV at IR
  replace IR := hid IR
  unfold kV
  go_enter Try.func87, Try.ntmps87
  refine wp_seq ?_
  refine Code.wp_mono (Q := CutX fun a' W' => KI w a b W' ∧ a' = ⟨#[.agg #[.int .u8 (vb a.h), .int .u8 a.r.k, .bool a.r.l, .int .i64 a.r.m, .int .u64 (ub a.r.s.1.1), .int .u64 (ub a.r.s.1.2), .int .u64 (ub a.r.s.2.1), .int .u64 (ub a.r.s.2.2), .int .i64 a.r.lo, .int .i64 a.r.hi], .agg #[.int .u8 (vb b.h), .int .u8 b.r.k, .bool b.r.l, .int .i64 b.r.m, .int .u64 (ub b.r.s.1.1), .int .u64 (ub b.r.s.1.2), .int .u64 (ub b.r.s.2.1), .int .u64 (ub b.r.s.2.2), .int .i64 b.r.lo, .int .i64 b.r.hi], .pointer (some ⟨w.heap.size, 0, none⟩), .pointer (some ⟨w.heap.size + 1, 0, none⟩), .bool false, undef, undef, undef, undef, undef, undef, undef, undef, undef, undef, undef, undef, undef, undef, undef, undef, undef, undef, undef, undef, undef, undef, undef, undef, undef, undef, undef, undef, undef, undef, undef, undef, undef, undef, undef, undef, undef, undef, undef, undef, undef, undef, undef, undef, undef, undef, undef, undef, undef, undef, undef, undef], []⟩) (CutX.imp ?_) ?_
  rotate_left
  · go_wp2
    exact ⟨KI.new w a b, rfl⟩
  rintro a' w1 ⟨I, rfl⟩
  have x0 := I.ja.c0
  have x1 := I.ja.c1
  have x2 := I.ja.c2
  have x3 := I.ja.c3
  have x4 := I.ja.c4
  have x5 := I.ja.c5
  have x6 := I.ja.c6
  have x7 := I.ja.c7
  have x8 := I.ja.c8
  have x9 := I.ja.c9
  have y0 := I.jb.c0
  have y1 := I.jb.c1
  have y2 := I.jb.c2
  have y3 := I.jb.c3
  have y4 := I.jb.c4
  have y5 := I.jb.c5
  have y6 := I.jb.c6
  have y7 := I.jb.c7
  have y8 := I.jb.c8
  have y9 := I.jb.c9
  go_wp2_with fail
  refine (IR.out _).mono ?_
  rintro e w2 ⟨rfl, z⟩
  have B := below_next I.bel z
  clear z x0 y0 x1 y1 x2 y2 x3 y3 x4 y4 x5 y5 x6 y6 x7 y7 x8 y8 x9 y9
  go_wp2
  go_ret
  exact ⟨rfl, B⟩
theorem rInSlot_any (a b : Sk) (ha : kMay a = true) (hb : kMay b = true) (w : World) : Calls Try.prog 87 #[kV a, kV b] w fun e w' => e = .returned (.bool (kIn a b)) ∧ Below w.heap.size w w' := by
  unfold kIn
  by_cases h0 : b.r.k = 0
  · rw [if_pos h0]
    exact inS_0 a b h0 w
  rw [if_neg h0]
  by_cases h1 : a.r.k = 0
  · rw [if_pos h1]
    exact inS_1 a b (kMay_Rm hb) h0 h1 w
  · rw [if_neg h1]
    exact inS_2 a b (kMay_Rm ha) (kMay_Rm hb) h0 h1 w
end Go.Proofs.Ytoanbjnhoggpjaa
