/-
  StateHolds: the walk.
-/
import Derived.Test.YtoanbjnhoggpjaaJShhC
import Derived.Test.YtoanbjnhoggpjaaJStVo
import Derived.Test.YtoanbjnhoggpjaaJStY
import Derived.Deep.MidRow
import Derived.Deep.RegionHeld3
namespace Go.Proofs.Ytoanbjnhoggpjaa
set_option linter.unusedSimpArgs false
set_option linter.unusedVariables false
set_option maxRecDepth 100000
open Go.ChangeShapes Go.WideShapes Go.ChangeAt Go.RowKit Me

set_option maxHeartbeats 16000000 in
theorem holds_walk (S : St) (V : Vw) (hS : StOk S) (hV : VwOk V) (w : World) : Calls Try.prog 5 #[stV S, vwV V] w fun e w' => e = .returned (.bool true) ∧ Below w.heap.size w w' := by
  obtain ⟨q, hq⟩ : ∃ q, sHolds S V = q := ⟨_, rfl⟩
  have HVw : Hid (∀ W, Calls Try.prog 23 #[.agg (vwC V).toArray] W fun e w' => e = .returned (.agg (vwC V).toArray) ∧ Below W.heap.size W w') := hid fun W => view_any V hV W
  have HM : Hid (∀ W, Calls Try.prog 22 #[.agg (stC S).toArray, .agg (vwC V).toArray] W fun e w' => e = .returned (.bool q) ∧ Below W.heap.size W w') := hid fun W => hq ▸ uHolds_any S V hS hV W
  have HD : Hid (∀ W, Calls Try.prog 24 #[.agg (stC S).toArray, .agg (vwC V).toArray] W fun e w' => e = .returned (.bool q) ∧ Below W.heap.size W w') := hid fun W => hq ▸ rHoldsS_any S V hS hV W
  have HW := hid wakes_any
  have a0 := RwT.new (g := w.heap.size) (n := 740) (w := w) (W := w) (cs := stC S) 37 (Below.refl _ _) (Nat.le_refl _) (stC_len S).symm
  have b0 := RwT.new (g := w.heap.size) (n := 877) (w := w) (cs := vwC V) 52 a0.i.bel (by simp) (vwC_len V hV.2.1).symm
  have I0 := (a0.alloc (by simp) (.cells (vwC V).toArray 52)).i
  have J0 := b0.i
  have e1 : (w.alloc (.cells (stC S).toArray 37)).heap.size = w.heap.size + 1 := by simp
  rw [e1] at J0
  have hya := yhs S
  have hyb : (Try.prog.info? 52).map (·.size) = some (vwC V).length := by rw [vwC_len V hV.2.1]; exact yinfo49
  unfold stV vwV
  obtain ⟨CA, hCA⟩ : ∃ CF, (stC S).toArray = CF := ⟨_, rfl⟩
  obtain ⟨CB, hCB⟩ : ∃ CF, (vwC V).toArray = CF := ⟨_, rfl⟩
  rw [hCA, hCB] at I0 J0 HM HD
  rw [hCB] at HVw
  rw [hCA, hCB]
  clear hS hV hq a0 b0 e1
  go_enter Try.func5, Try.ntmps5
  refine wp_seq ?_
  refine Code.wp_mono (Q := CutX fun a' W' => (RwI w.heap.size w W' w.heap.size (stC S) ∧ RwI w.heap.size w W' (w.heap.size + 1) (vwC V)) ∧ a' = ⟨#[.agg CA, .agg CB, .pointer (some ⟨w.heap.size, 0, none⟩), .pointer (some ⟨w.heap.size + 1, 0, none⟩), .bool false, undef, undef, undef, undef, undef, undef, undef, undef, undef, undef, undef], []⟩) (CutX.imp ?_) ?_
  rotate_left
  · go_wp2
    exact ⟨⟨I0, J0⟩, rfl⟩
  clear I0 J0
  rintro a' w1 ⟨⟨I1, J1⟩, rfl⟩
  have ra := I1.r0
  have sa := I1.sz
  have rb := J1.r0
  have sb := J1.sz
  have hI := hid I1
  clear I1 J1
  go_wp2_with fail
  refine wp_region_held_drew (S := (fun w' : World => Below w1.heap.size w1 w')) (by kernel_rfl) ?_ (fun hHeld => ?_)
  · (try dsimp only); first | (with_reducible exact below_dr _) | (with_reducible exact Below.refl _ _) | exact below_dr _
  have hBk := below_dr w1
  refine take_d (i := 0) (v := _) rfl (by rfl) (by kernel_rfl) (by kernel_rfl) (by kernel_rfl) (fun _ _ _ h => h) (yieldsIf_load_mid (by rfl) _ _ rfl _ _ rfl (stC S) _ ?hx2_ Try.underlying37 rfl hya) (by assumption) ?rx2_
  case hx2_ => (intro wS hSw; exact range_below ra sa (Me.bcell hSw).1)
  try simp only [s1, s2, s3]
  refine take_d (i := 1) (v := _) rfl (by rfl) (by kernel_rfl) (by kernel_rfl) (by kernel_rfl) (fun _ _ _ h => h) (yieldsIf_load_mid (by rfl) _ _ rfl _ _ rfl (vwC V) _ ?hx3_ Try.underlying52 rfl hyb) (by assumption) ?rx3_
  case hx3_ => (intro wS hSw; exact range_below rb sb (Me.bcell hSw).1)
  try simp only [s1, s2, s3]
  refine take_d (i := 4) (v := _) rfl (by rfl) (by kernel_rfl) (by kernel_rfl) (by kernel_rfl) (fun _ _ _ h => h) (yieldsIf_load_mid (by rfl) _ _ rfl _ _ rfl (stC S) _ ?hx4_ Try.underlying37 rfl hya) (by assumption) ?rx4_
  case hx4_ => (intro wS hSw; exact range_below ra sa (Me.bcell hSw).1)
  try simp only [s1, s2, s3]
  refine take_d (i := 5) (v := _) rfl (by rfl) (by kernel_rfl) (by kernel_rfl) (by kernel_rfl) (fun _ _ _ h => h) (yieldsIf_load_mid (by rfl) _ _ rfl _ _ rfl (vwC V) _ ?hx5_ Try.underlying52 rfl hyb) (by assumption) ?rx5_
  case hx5_ => (intro wS hSw; exact range_below rb sb (Me.bcell hSw).1)
  try simp only [s1, s2, s3]
  rw [hCA, hCB]
  refine wpAnyH_ready (rs := [2]) (by kernel_rfl) (by simp) ?_
  refine AllReadyH.cons rfl (fun K hK => ?_) AllReadyH.nil
  go_simp
  go_at_call 23
  refine (HVw.out _).mono ?_
  rintro e wz1_1 ⟨rfl, bkz1_1⟩
  have hBn := below_next hBk bkz1_1
  clear hBk bkz1_1
  have hBk := hBn
  clear hBn
  try go_simp
  refine hK.out _ _ ?_ (fun hHeld => ?_)
  · (try dsimp only); exact hBk
  clear hK K
  (try simp only [Act.put, List.setIfInBounds_toArray, List.set_cons_zero, List.set_cons_succ])
  refine wpAnyH_ready (rs := [3]) (by kernel_rfl) (by simp) ?_
  refine AllReadyH.cons rfl (fun K hK => ?_) AllReadyH.nil
  go_simp
  go_at_call 22
  refine (HM.out _).mono ?_
  rintro e wz1_2 ⟨rfl, bkz1_2⟩
  have hBn := below_next hBk bkz1_2
  clear hBk bkz1_2
  have hBk := hBn
  clear hBn
  try go_simp
  refine hK.out _ _ ?_ (fun hHeld => ?_)
  · (try dsimp only); exact hBk
  clear hK K
  (try simp only [Act.put, List.setIfInBounds_toArray, List.set_cons_zero, List.set_cons_succ])
  refine wpAnyH_ready (rs := [6]) (by kernel_rfl) (by simp) ?_
  refine AllReadyH.cons rfl (fun K hK => ?_) AllReadyH.nil
  go_simp
  go_at_call 24
  refine (HD.out _).mono ?_
  rintro e wz1_3 ⟨rfl, bkz1_3⟩
  have hBn := below_next hBk bkz1_3
  clear hBk bkz1_3
  have hBk := hBn
  clear hBn
  try go_simp
  refine hK.out _ _ ?_ (fun hHeld => ?_)
  · (try dsimp only); exact hBk
  clear hK K
  (try simp only [Act.put, List.setIfInBounds_toArray, List.set_cons_zero, List.set_cons_succ])
  refine tq 7 rfl (fun _ hS => by go_simp; try with_reducible rfl) ?_
  try simp only [s1, s2, s3]
  refine tq 8 rfl (fun _ hS => by go_simp; try with_reducible rfl) ?_
  try simp only [s1, s2, s3]
  refine wpAnyH_ready (rs := [9]) (by kernel_rfl) (by simp) ?_
  refine AllReadyH.cons rfl (fun K hK => ?_) AllReadyH.nil
  go_simp
  go_at_call 18
  refine (HW.out _).mono ?_
  rintro e wz1_4 ⟨rfl, bkz1_4⟩
  have hBn := below_next hBk bkz1_4
  clear hBk bkz1_4
  have hBk := hBn
  clear hBn
  try go_simp
  refine hK.out _ _ ?_ (fun hHeld => ?_)
  · (try dsimp only); exact hBk
  clear hK K
  (try simp only [Act.put, List.setIfInBounds_toArray, List.set_cons_zero, List.set_cons_succ])
  refine tq 10 rfl (fun _ hS => by go_simp; try with_reducible rfl) ?_
  try simp only [s1, s2, s3]
  refine tq 11 rfl (fun _ hS => by go_simp; try with_reducible rfl) ?_
  try simp only [s1, s2, s3]
  refine wpAnyH_done (by kernel_rfl) ?_ _
  go_wp2
  go_ret
  exact ⟨rfl, below_next hI.out.bel hBk⟩
end Go.Proofs.Ytoanbjnhoggpjaa
