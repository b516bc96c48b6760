/-
  ImageSame: the law's walk.
-/
import Derived.Test.YtolpgcoebmboeaaImN
import Derived.Test.YtolpgcoebmboeaaImT
namespace Go.Proofs.Ytolpgcoebmboeaa
set_option linter.unusedSimpArgs false
set_option linter.unusedVariables false
open Go.ChangeShapes Go.WideShapes Go.ChangeAt Go.RowKit

theorem sm_of {n m : Nat} (h : (decide (100 < n) || decide (2000 < m)) = false) : n ≤ 1000 ∧ m ≤ 100000 := by
  simp at h
  omega
set_option maxHeartbeats 3200000 in
set_option maxRecDepth 20000 in
theorem imageSame_walk (pm pc pm' pc' : Option Addr) (cm cc cm' cc' : Nat) (l l' : List M4) (c c' : List I5) (w : World) (h1 : ImS w.heap.size w pm l pc c) (h2 : ImS w.heap.size w pm' l' pc' c') :
    Calls Try.prog 5 #[.agg #[.slice pm l.length cm, .slice pc c.length cc], .agg #[.slice pm' l'.length cm', .slice pc' c'.length cc']] w fun e w' => e = .returned (.bool true) ∧ Below w.heap.size w w' := by
  have hB : Below w.heap.size w ((w.alloc (.cells #[.slice pm l.length cm, .slice pc c.length cc] 25)).alloc (.cells #[.slice pm' l'.length cm', .slice pc' c'.length cc'] 25)) := ((Below.refl w.heap.size w).alloc (Nat.le_refl _) _).alloc (by simp) _
  have k0 : ((w.alloc (.cells #[.slice pm l.length cm, .slice pc c.length cc] 25)).alloc (.cells #[.slice pm' l'.length cm', .slice pc' c'.length cc'] 25)).cell? ⟨w.heap.size, 0, none⟩ = some (.slice pm l.length cm) := by simp
  have k1 : ((w.alloc (.cells #[.slice pm l.length cm, .slice pc c.length cc] 25)).alloc (.cells #[.slice pm' l'.length cm', .slice pc' c'.length cc'] 25)).cell? ⟨w.heap.size, 1, none⟩ = some (.slice pc c.length cc) := by simp
  have k2 : ((w.alloc (.cells #[.slice pm l.length cm, .slice pc c.length cc] 25)).alloc (.cells #[.slice pm' l'.length cm', .slice pc' c'.length cc'] 25)).cell? ⟨w.heap.size + 1, 0, none⟩ = some (.slice pm' l'.length cm') := by simp
  have k3 : ((w.alloc (.cells #[.slice pm l.length cm, .slice pc c.length cc] 25)).alloc (.cells #[.slice pm' l'.length cm', .slice pc' c'.length cc'] 25)).cell? ⟨w.heap.size + 1, 1, none⟩ = some (.slice pc' c'.length cc') := by simp
  have HS1 := hid ((h1.kept hB (Nat.le_refl _)).wide hB.size)
  have HS2 := hid ((h2.kept hB (Nat.le_refl _)).wide hB.size)
  have HWK := hid wakes_any
  have HB := hid hB
  clear hB h1 h2
  go_enter Try.func5, Try.ntmps5
  go_wp2_with fail
  generalize (w.alloc (.cells #[.slice pm l.length cm, .slice pc c.length cc] 25)).alloc (.cells #[.slice pm' l'.length cm', .slice pc' c'.length cc'] 25) = W0 at *
  refine (large_any pm pc cm cc l.length c.length W0).mono ?_
  rintro e w1 ⟨rfl, b1⟩
  replace k0 := cn b1 k0
  replace k1 := cn b1 k1
  replace k2 := cn b1 k2
  replace k3 := cn b1 k3
  replace HS1 := hid ((HS1.out.kept b1 (Nat.le_refl _)).wide b1.size)
  replace HS2 := hid ((HS2.out.kept b1 (Nat.le_refl _)).wide b1.size)
  have HB1 := hid (HB.out.trans (b1.mono HB.out.size))
  clear b1 HB
  cases hlg : (decide (100 < l.length) || decide (2000 < c.length))
  rotate_left
  · go_wp2_with fail
    refine (HWK.out _).mono ?_
    rintro e w2 ⟨rfl, b2⟩
    go_wp2
    go_ret
    exact ⟨rfl, below_next HB1.out b2⟩
  have HSM := hid (sm_of hlg)
  clear hlg
  go_wp2_with fail
  refine (large_any pm' pc' cm' cc' l'.length c'.length w1).mono ?_
  rintro e u ⟨rfl, b1⟩
  replace k0 := cn b1 k0
  replace k1 := cn b1 k1
  replace k2 := cn b1 k2
  replace k3 := cn b1 k3
  replace HS1 := hid ((HS1.out.kept b1 (Nat.le_refl _)).wide b1.size)
  replace HS2 := hid ((HS2.out.kept b1 (Nat.le_refl _)).wide b1.size)
  have HB2 := hid (below_next HB1.out b1)
  clear b1 HB1
  cases hlg : (decide (100 < l'.length) || decide (2000 < c'.length))
  rotate_left
  · go_wp2_with fail
    refine (HWK.out _).mono ?_
    rintro e w2 ⟨rfl, b2⟩
    go_wp2
    go_ret
    exact ⟨rfl, below_next HB2.out b2⟩
  clear hlg
  go_wp2
  refine wp_region_held_drew (S := (fun w' : World => Below u.heap.size u w')) (by kernel_rfl) ?_ (fun hHeld => ?_)
  · (try dsimp only); first | (with_reducible exact below_dr _) | (with_reducible exact Below.refl _ _) | exact below_dr _
  have hBk := below_dr u
  refine tq 0 rfl (fun _ hS => by have c0 := cn hS k0; have c1 := cn hS k1; go_simp; try with_reducible rfl) ?_
  try simp only [s1, s2, s3]
  refine tq 1 rfl (fun _ hS => by have c0 := cn hS k2; have c1 := cn hS k3; go_simp; try with_reducible rfl) ?_
  try simp only [s1, s2, s3]
  refine tq 3 rfl (fun _ hS => by have c0 := cn hS k0; have c1 := cn hS k1; go_simp; try with_reducible rfl) ?_
  try simp only [s1, s2, s3]
  refine tq 4 rfl (fun _ hS => by have c0 := cn hS k2; have c1 := cn hS k3; go_simp; try with_reducible rfl) ?_
  try simp only [s1, s2, s3]
  refine wpAnyH_ready (rs := [2]) (by kernel_rfl) (by simp) ?_
  refine AllReadyH.cons rfl (fun K hK => ?_) AllReadyH.nil
  go_simp
  go_at_call 18
  refine (cSame_any pm pc pm' pc' cm cc cm' cc' _ l l' c c' _ (Nat.le_refl _) ((HS1.out.kept hBk (Nat.le_refl _)).wide hBk.size) ((HS2.out.kept hBk (Nat.le_refl _)).wide hBk.size)).mono ?_
  rintro e wr1 ⟨rfl, bkr1⟩
  have hBn := below_next hBk bkr1
  clear hBk bkr1
  have hBk := hBn
  clear hBn
  try go_simp
  refine hK.out _ _ ?_ (fun hHeld => ?_)
  · (try dsimp only); exact hBk
  clear hK K
  (try simp only [Act.put, List.setIfInBounds_toArray, List.set_cons_zero, List.set_cons_succ])
  refine wpAnyH_ready (rs := [5]) (by kernel_rfl) (by simp) ?_
  refine AllReadyH.cons rfl (fun K hK => ?_) AllReadyH.nil
  go_simp
  go_at_call 15
  refine (rSame_any pm pc pm' pc' cm cc cm' cc' _ l l' c c' _ (Nat.le_refl _) ((HS1.out.kept hBk (Nat.le_refl _)).wide hBk.size) ((HS2.out.kept hBk (Nat.le_refl _)).wide hBk.size)).mono ?_
  rintro e wr2 ⟨rfl, bkr2⟩
  have hBn := below_next hBk bkr2
  clear hBk bkr2
  have hBk := hBn
  clear hBn
  try go_simp
  refine hK.out _ _ ?_ (fun hHeld => ?_)
  · (try dsimp only); exact hBk
  clear hK K
  (try simp only [Act.put, List.setIfInBounds_toArray, List.set_cons_zero, List.set_cons_succ])
  refine tq 6 rfl (fun _ hS => by go_simp; try with_reducible rfl) ?_
  try simp only [s1, s2, s3]
  refine tq 7 rfl (fun _ hS => by go_simp; try with_reducible rfl) ?_
  try simp only [s1, s2, s3]
  refine tq 8 rfl (fun _ hS => by have c0 := cn hS k0; have c1 := cn hS k1; go_simp; try with_reducible rfl) ?_
  try simp only [s1, s2, s3]
  refine tq 9 rfl (fun _ hS => by have c0 := cn hS k0; have c1 := cn hS k1; go_simp; try with_reducible rfl) ?_
  try simp only [s1, s2, s3]
  refine wpAnyH_ready (rs := [10]) (by kernel_rfl) (by simp) ?_
  refine AllReadyH.cons rfl (fun K hK => ?_) AllReadyH.nil
  go_simp
  go_at_call 11
  refine (rCopy_any pm pc cm cc _ l c _ (Nat.le_refl _) ((HS1.out.kept hBk (Nat.le_refl _)).wide hBk.size) HSM.out.1 HSM.out.2).mono ?_
  rintro e wr3 ⟨pm3, cm3, pc3, cc3, rfl, S3, bkr3⟩
  have hBn := below_next hBk bkr3
  clear hBk bkr3
  have hBk := hBn
  clear hBn
  try go_simp
  refine hK.out _ _ ?_ (fun hHeld => ?_)
  · (try dsimp only); exact hBk
  clear hK K
  (try simp only [Act.put, List.setIfInBounds_toArray, List.set_cons_zero, List.set_cons_succ])
  refine wpAnyH_ready (rs := [11]) (by kernel_rfl) (by simp) ?_
  refine AllReadyH.cons rfl (fun K hK => ?_) AllReadyH.nil
  go_simp
  go_at_call 18
  refine (cSame_any pm pc pm3 pc3 cm cc cm3 cc3 _ l l c c _ (Nat.le_refl _) ((HS1.out.kept hBk (Nat.le_refl _)).wide hBk.size) S3).mono ?_
  rintro e wr4 ⟨rfl, bkr4⟩
  have hBn := below_next hBk bkr4
  clear hBk bkr4
  have hBk := hBn
  clear hBn
  try go_simp
  refine hK.out _ _ ?_ (fun hHeld => ?_)
  · (try dsimp only); exact hBk
  clear hK K
  (try simp only [Act.put, List.setIfInBounds_toArray, List.set_cons_zero, List.set_cons_succ])
  refine tq 12 rfl (fun _ hS => by go_simp; try with_reducible rfl) ?_
  try simp only [s1, s2, s3]
  refine tq 13 rfl (fun _ hS => by go_simp; try with_reducible rfl) ?_
  try simp only [s1, s2, s3]
  refine wpAnyH_ready (rs := [14]) (by kernel_rfl) (by simp) ?_
  refine AllReadyH.cons rfl (fun K hK => ?_) AllReadyH.nil
  go_simp
  go_at_call 10
  refine (HWK.out _).mono ?_
  rintro e wr5 ⟨rfl, bkr5⟩
  have hBn := below_next hBk bkr5
  clear hBk bkr5
  have hBk := hBn
  clear hBn
  try go_simp
  refine hK.out _ _ ?_ (fun hHeld => ?_)
  · (try dsimp only); exact hBk
  clear hK K
  (try simp only [Act.put, List.setIfInBounds_toArray, List.set_cons_zero, List.set_cons_succ])
  refine tq 15 rfl (fun _ hS => by go_simp; try with_reducible rfl) ?_
  try simp only [s1, s2, s3]
  refine tq 16 rfl (fun _ hS => by go_simp; try with_reducible rfl) ?_
  try simp only [s1, s2, s3]
  refine wpAnyH_done (by kernel_rfl) ?_ _
  go_wp2
  go_ret
  exact ⟨rfl, below_next HB2.out hBk⟩
end Go.Proofs.Ytolpgcoebmboeaa
