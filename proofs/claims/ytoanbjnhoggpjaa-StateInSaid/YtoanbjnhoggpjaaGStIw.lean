/-
  StateIn: the walk.
-/
import Derived.Test.YtoanbjnhoggpjaaGSiD
import Derived.Test.YtoanbjnhoggpjaaGStY
import Derived.Deep.MidRow
import Derived.Deep.RegionHeld3
namespace Go.Proofs.Ytoanbjnhoggpjaa
set_option linter.unusedSimpArgs false
set_option linter.unusedVariables false
set_option maxRecDepth 100000
open Go.ChangeShapes Go.WideShapes Go.ChangeAt Go.RowKit Me

set_option maxHeartbeats 16000000 in
theorem in_walk (A B : St) (hA : StOk A) (hB : StOk B) (w : World) : Calls Try.prog 6 #[stV A, stV B] w fun e w' => e = .returned (.bool true) ∧ Below w.heap.size w w' := by
  obtain ⟨q, hq⟩ : ∃ q, sIn A B = q := ⟨_, rfl⟩
  have HM : Hid (∀ W, Calls Try.prog 25 #[.agg (stC A).toArray, .agg (stC B).toArray] W fun e w' => e = .returned (.bool q) ∧ Below W.heap.size W w') := hid fun W => hq ▸ uIn_any A B hA hB W
  have HD : Hid (∀ W, Calls Try.prog 26 #[.agg (stC A).toArray, .agg (stC B).toArray] W fun e w' => e = .returned (.bool q) ∧ Below W.heap.size W w') := hid fun W => hq ▸ rInS_any A B hA hB W
  have HW := hid wakes_any
  have a0 := RwT.new (g := w.heap.size) (n := 740) (w := w) (W := w) (cs := stC A) 37 (Below.refl _ _) (Nat.le_refl _) (stC_len A).symm
  have b0 := RwT.new (g := w.heap.size) (n := 740) (w := w) (cs := stC B) 37 a0.i.bel (by simp) (stC_len B).symm
  have I0 := (a0.alloc (by simp) (.cells (stC B).toArray 37)).i
  have J0 := b0.i
  have e1 : (w.alloc (.cells (stC A).toArray 37)).heap.size = w.heap.size + 1 := by simp
  rw [e1] at J0
  have hya := yhs A
  have hyb := yhs B
  unfold stV
  obtain ⟨CA, hCA⟩ : ∃ CF, (stC A).toArray = CF := ⟨_, rfl⟩
  obtain ⟨CB, hCB⟩ : ∃ CF, (stC B).toArray = CF := ⟨_, rfl⟩
  rw [hCA, hCB] at I0 J0 HM HD
  rw [hCA, hCB]
  clear hA hB hq a0 b0 e1
  go_enter Try.func6, Try.ntmps6
  refine wp_seq ?_
  refine Code.wp_mono (Q := CutX fun a' W' => (RwI w.heap.size w W' w.heap.size (stC A) ∧ RwI w.heap.size w W' (w.heap.size + 1) (stC B)) ∧ a' = ⟨#[.agg CA, .agg CB, .pointer (some ⟨w.heap.size, 0, none⟩), .pointer (some ⟨w.heap.size + 1, 0, none⟩), .bool false, undef, undef, undef, undef, undef, undef, undef, undef, undef, undef], []⟩) (CutX.imp ?_) ?_
  rotate_left
  · go_wp2
    exact ⟨⟨I0, J0⟩, rfl⟩
  clear I0 J0
  rintro a' w1 ⟨⟨I1, J1⟩, rfl⟩
  have ra := I1.r0
  have sa := I1.sz
  have rb := J1.r0
  have sb := J1.sz
  have hI := hid I1
  clear I1 J1
  go_wp2_with fail
  refine wp_region_held_drew (S := (fun w' : World => Below w1.heap.size w1 w')) (by kernel_rfl) ?_ (fun hHeld => ?_)
  · (try dsimp only); first | (with_reducible exact below_dr _) | (with_reducible exact Below.refl _ _) | exact below_dr _
  have hBk := below_dr w1
  refine take_d (i := 0) (v := _) rfl (by rfl) (by kernel_rfl) (by kernel_rfl) (by kernel_rfl) (fun _ _ _ h => h) (yieldsIf_load_mid (by rfl) _ _ rfl _ _ rfl (stC A) _ ?hx2_ Try.underlying37 rfl hya) (by assumption) ?rx2_
  case hx2_ => (intro wS hSw; exact range_below ra sa (Me.bcell hSw).1)
  try simp only [s1, s2, s3]
  refine take_d (i := 1) (v := _) rfl (by rfl) (by kernel_rfl) (by kernel_rfl) (by kernel_rfl) (fun _ _ _ h => h) (yieldsIf_load_mid (by rfl) _ _ rfl _ _ rfl (stC B) _ ?hx3_ Try.underlying37 rfl hyb) (by assumption) ?rx3_
  case hx3_ => (intro wS hSw; exact range_below rb sb (Me.bcell hSw).1)
  try simp only [s1, s2, s3]
  refine take_d (i := 3) (v := _) rfl (by rfl) (by kernel_rfl) (by kernel_rfl) (by kernel_rfl) (fun _ _ _ h => h) (yieldsIf_load_mid (by rfl) _ _ rfl _ _ rfl (stC A) _ ?hx4_ Try.underlying37 rfl hya) (by assumption) ?rx4_
  case hx4_ => (intro wS hSw; exact range_below ra sa (Me.bcell hSw).1)
  try simp only [s1, s2, s3]
  refine take_d (i := 4) (v := _) rfl (by rfl) (by kernel_rfl) (by kernel_rfl) (by kernel_rfl) (fun _ _ _ h => h) (yieldsIf_load_mid (by rfl) _ _ rfl _ _ rfl (stC B) _ ?hx5_ Try.underlying37 rfl hyb) (by assumption) ?rx5_
  case hx5_ => (intro wS hSw; exact range_below rb sb (Me.bcell hSw).1)
  try simp only [s1, s2, s3]
  rw [hCA, hCB]
  refine wpAnyH_ready (rs := [2]) (by kernel_rfl) (by simp) ?_
  refine AllReadyH.cons rfl (fun K hK => ?_) AllReadyH.nil
  go_simp
  go_at_call 25
  refine (HM.out _).mono ?_
  rintro e wz1_1 ⟨rfl, bkz1_1⟩
  have hBn := below_next hBk bkz1_1
  clear hBk bkz1_1
  have hBk := hBn
  clear hBn
  try go_simp
  refine hK.out _ _ ?_ (fun hHeld => ?_)
  · (try dsimp only); exact hBk
  clear hK K
  (try simp only [Act.put, List.setIfInBounds_toArray, List.set_cons_zero, List.set_cons_succ])
  refine wpAnyH_ready (rs := [5]) (by kernel_rfl) (by simp) ?_
  refine AllReadyH.cons rfl (fun K hK => ?_) AllReadyH.nil
  go_simp
  go_at_call 26
  refine (HD.out _).mono ?_
  rintro e wz1_2 ⟨rfl, bkz1_2⟩
  have hBn := below_next hBk bkz1_2
  clear hBk bkz1_2
  have hBk := hBn
  clear hBn
  try go_simp
  refine hK.out _ _ ?_ (fun hHeld => ?_)
  · (try dsimp only); exact hBk
  clear hK K
  (try simp only [Act.put, List.setIfInBounds_toArray, List.set_cons_zero, List.set_cons_succ])
  refine tq 6 rfl (fun _ hS => by go_simp; try with_reducible rfl) ?_
  try simp only [s1, s2, s3]
  refine tq 7 rfl (fun _ hS => by go_simp; try with_reducible rfl) ?_
  try simp only [s1, s2, s3]
  refine wpAnyH_ready (rs := [8]) (by kernel_rfl) (by simp) ?_
  refine AllReadyH.cons rfl (fun K hK => ?_) AllReadyH.nil
  go_simp
  go_at_call 18
  refine (HW.out _).mono ?_
  rintro e wz1_3 ⟨rfl, bkz1_3⟩
  have hBn := below_next hBk bkz1_3
  clear hBk bkz1_3
  have hBk := hBn
  clear hBn
  try go_simp
  refine hK.out _ _ ?_ (fun hHeld => ?_)
  · (try dsimp only); exact hBk
  clear hK K
  (try simp only [Act.put, List.setIfInBounds_toArray, List.set_cons_zero, List.set_cons_succ])
  refine tq 9 rfl (fun _ hS => by go_simp; try with_reducible rfl) ?_
  try simp only [s1, s2, s3]
  refine tq 10 rfl (fun _ hS => by go_simp; try with_reducible rfl) ?_
  try simp only [s1, s2, s3]
  refine wpAnyH_done (by kernel_rfl) ?_ _
  go_wp2
  go_ret
  exact ⟨rfl, below_next hI.out.bel hBk⟩
end Go.Proofs.Ytoanbjnhoggpjaa
