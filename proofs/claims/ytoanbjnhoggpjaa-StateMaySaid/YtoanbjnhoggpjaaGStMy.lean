/-
  StateMay: the walk.
-/
import Derived.Test.YtoanbjnhoggpjaaGRdB
import Derived.Test.YtoanbjnhoggpjaaGRdC
import Derived.Test.YtoanbjnhoggpjaaGStY
import Derived.Test.YtoanbjnhoggpjaaGStHr
import Derived.Deep.MidRow
import Derived.Deep.RegionHeld3
namespace Go.Proofs.Ytoanbjnhoggpjaa
set_option linter.unusedSimpArgs false
set_option linter.unusedVariables false
set_option maxRecDepth 100000
open Go.ChangeShapes Go.WideShapes Go.ChangeAt Go.RowKit Me

theorem exec_eql {P : Program} {a : Act} {w : World} {d : Option Tmp} {x y : Operand} {tx ty t : TypeId} {ps : String} {af : Array Edge} {gd : Option (Tmp × Bool)} {r : Bool} (u v : Value) (hx : a.eval x = u) (hy : a.eval y = v) (hG : (eqGuard .eql tx x y u v).run P w = .ok () w) (h : (Go.binOp .eql tx u v).run P w = .ok (.bool r) w) : (execOp a.eval ⟨d, .binOp .eql tx x y ty, t, ps, af, gd⟩).run P w = .ok (.value (.bool r)) w := by
  subst hx hy
  unfold execOp
  simp [h, hG, Sem.run_bind, Result.andThen]
theorem yeg36 : Try.prog.eqGuardType Try.prog.depth 37 = false := by kernel_rfl
theorem yG36 (x y : Operand) (a b : Array Value) (W : World) : (eqGuard .eql 37 x y (.agg a) (.agg b)).run Try.prog W = .ok () W := by simp [eqGuard, run_program, yeg36]
theorem sEq_run (S : St) (h : StOk S) (W : World) : (binOp .eql 37 (.agg (stC S).toArray) (.agg (stC S).toArray)).run Try.prog W = .ok (.bool true) W := by
  have e := eq_st S S h h W
  rwa [(sEq_iff S S).2 rfl] at e
set_option maxHeartbeats 16000000 in
theorem may_walk (S : St) (hS : StOk S) (w : World) : Calls Try.prog 4 #[stV S] w fun e w' => e = .returned (.bool true) ∧ Below w.heap.size w w' := by
  obtain ⟨q, hq⟩ : ∃ q, sMay S = q := ⟨_, rfl⟩
  have HM : Hid (∀ W, Calls Try.prog 17 #[.agg (stC S).toArray] W fun e w' => e = .returned (.bool q) ∧ Below W.heap.size W w') := hid fun W => hq ▸ uMay_any S hS W
  have HD : Hid (∀ W, Calls Try.prog 19 #[.agg (stC S).toArray] W fun e w' => e = .returned (.bool q) ∧ Below W.heap.size W w') := hid fun W => hq ▸ rMayS_any S hS W
  have HB : Hid (∀ W, Calls Try.prog 20 #[] W fun e w' => e = .returned (.agg (stC begS).toArray) ∧ Below W.heap.size W w') := hid fun W => uBegin_any W
  have HC : Hid (∀ W, Calls Try.prog 21 #[] W fun e w' => e = .returned (.agg (stC begS).toArray) ∧ Below W.heap.size W w') := hid fun W => rBegin_any W
  have HW := hid wakes_any
  have HE : Hid (∀ W, (binOp .eql 37 (.agg (stC begS).toArray) (.agg (stC begS).toArray)).run Try.prog W = .ok (.bool true) W) := hid (sEq_run begS begS_ok)
  have I0 := RwI.first w (stC S) 37
  have hys := yhs S
  unfold stV
  generalize (stC begS).toArray = CB at *
  obtain ⟨CF, hCF⟩ : ∃ CF, (stC S).toArray = CF := ⟨_, rfl⟩
  rw [hCF] at I0 HM HD ⊢
  clear hS hq
  go_enter Try.func4, Try.ntmps4
  refine wp_seq ?_
  refine Code.wp_mono (Q := CutX fun a' W' => RwI w.heap.size w W' w.heap.size (stC S) ∧ a' = ⟨#[.agg CF, .pointer (some ⟨w.heap.size, 0, none⟩), .bool false, undef, undef, undef, undef, undef, undef, undef, undef, undef, undef, undef, undef, undef], []⟩) (CutX.imp ?_) ?_
  rotate_left
  · go_wp2
    exact ⟨I0, rfl⟩
  clear I0
  rintro a' w1 ⟨I1, rfl⟩
  have hr := I1.r0
  have hs := I1.sz
  have hI := hid I1
  clear I1
  go_wp2_with fail
  refine wp_region_held_drew (S := (fun w' : World => Below w1.heap.size w1 w')) (by kernel_rfl) ?_ (fun hHeld => ?_)
  · (try dsimp only); first | (with_reducible exact below_dr _) | (with_reducible exact Below.refl _ _) | exact below_dr _
  have hBk := below_dr w1
  refine take_d (i := 0) (v := _) rfl (by rfl) (by kernel_rfl) (by kernel_rfl) (by kernel_rfl) (fun _ _ _ h => h) (yieldsIf_load_mid (by rfl) _ _ rfl _ _ rfl (stC S) _ ?hy1 Try.underlying37 rfl hys) (by assumption) ?ry1
  case hy1 => (intro wS hSw; exact range_below hr hs (Me.bcell hSw).1)
  (try simp only [Act.put, List.setIfInBounds_toArray, List.set_cons_zero, List.set_cons_succ])
  refine take_d (i := 2) (v := _) rfl (by rfl) (by kernel_rfl) (by kernel_rfl) (by kernel_rfl) (fun _ _ _ h => h) (yieldsIf_load_mid (by rfl) _ _ rfl _ _ rfl (stC S) _ ?hy2 Try.underlying37 rfl hys) (by assumption) ?ry2
  case hy2 => (intro wS hSw; exact range_below hr hs (Me.bcell hSw).1)
  (try simp only [Act.put, List.setIfInBounds_toArray, List.set_cons_zero, List.set_cons_succ])
  rw [hCF]
  refine wpAnyH_ready (rs := [1]) (by kernel_rfl) (by simp) ?_
  refine AllReadyH.cons rfl (fun K hK => ?_) AllReadyH.nil
  go_simp
  go_at_call 17
  refine (HM.out _).mono ?_
  rintro e wy3 ⟨rfl, bky3⟩
  have hBn := below_next hBk bky3
  clear hBk bky3
  have hBk := hBn
  clear hBn
  try go_simp
  refine hK.out _ _ ?_ (fun hHeld => ?_)
  · (try dsimp only); exact hBk
  clear hK K
  (try simp only [Act.put, List.setIfInBounds_toArray, List.set_cons_zero, List.set_cons_succ])
  refine wpAnyH_ready (rs := [3]) (by kernel_rfl) (by simp) ?_
  refine AllReadyH.cons rfl (fun K hK => ?_) AllReadyH.nil
  go_simp
  go_at_call 19
  refine (HD.out _).mono ?_
  rintro e wy4 ⟨rfl, bky4⟩
  have hBn := below_next hBk bky4
  clear hBk bky4
  have hBk := hBn
  clear hBn
  try go_simp
  refine hK.out _ _ ?_ (fun hHeld => ?_)
  · (try dsimp only); exact hBk
  clear hK K
  (try simp only [Act.put, List.setIfInBounds_toArray, List.set_cons_zero, List.set_cons_succ])
  refine take_d (i := 4) (v := ?vy5) rfl (by rfl) (by kernel_rfl) (by kernel_rfl) (by kernel_rfl) (fun _ _ _ h => h) (Or.inl ⟨by rfl, ?hy5⟩) (by assumption) ?ry5
  case hy5 => (intro wS hSw; (try dsimp only at hSw); go_simp; try (with_reducible rfl))
  (try simp only [Act.put, List.setIfInBounds_toArray, List.set_cons_zero, List.set_cons_succ])
  refine take_d (i := 5) (v := ?vy6) rfl (by rfl) (by kernel_rfl) (by kernel_rfl) (by kernel_rfl) (fun _ _ _ h => h) (Or.inl ⟨by rfl, ?hy6⟩) (by assumption) ?ry6
  case hy6 => (intro wS hSw; (try dsimp only at hSw); go_simp; try (with_reducible rfl))
  (try simp only [Act.put, List.setIfInBounds_toArray, List.set_cons_zero, List.set_cons_succ])
  refine wpAnyH_ready (rs := [6]) (by kernel_rfl) (by simp) ?_
  refine AllReadyH.cons rfl (fun K hK => ?_) AllReadyH.nil
  go_simp
  go_at_call 20
  refine (HB.out _).mono ?_
  rintro e wy7 ⟨rfl, bky7⟩
  have hBn := below_next hBk bky7
  clear hBk bky7
  have hBk := hBn
  clear hBn
  try go_simp
  refine hK.out _ _ ?_ (fun hHeld => ?_)
  · (try dsimp only); exact hBk
  clear hK K
  (try simp only [Act.put, List.setIfInBounds_toArray, List.set_cons_zero, List.set_cons_succ])
  refine wpAnyH_ready (rs := [7]) (by kernel_rfl) (by simp) ?_
  refine AllReadyH.cons rfl (fun K hK => ?_) AllReadyH.nil
  go_simp
  go_at_call 21
  refine (HC.out _).mono ?_
  rintro e wy8 ⟨rfl, bky8⟩
  have hBn := below_next hBk bky8
  clear hBk bky8
  have hBk := hBn
  clear hBn
  try go_simp
  refine hK.out _ _ ?_ (fun hHeld => ?_)
  · (try dsimp only); exact hBk
  clear hK K
  (try simp only [Act.put, List.setIfInBounds_toArray, List.set_cons_zero, List.set_cons_succ])
  refine take_d (i := 8) (v := .bool true) rfl (by rfl) (by kernel_rfl) (by kernel_rfl) (by kernel_rfl) (fun _ _ _ h => h) (Or.inl ⟨by rfl, fun wS _ => exec_eql (.agg CB) (.agg CB) (by rfl) (by rfl) (yG36 _ _ _ _ _) (HE.out wS)⟩) (by assumption) ?ry9
  (try simp only [Act.put, List.setIfInBounds_toArray, List.set_cons_zero, List.set_cons_succ])
  refine take_d (i := 9) (v := ?vy10) rfl (by rfl) (by kernel_rfl) (by kernel_rfl) (by kernel_rfl) (fun _ _ _ h => h) (Or.inl ⟨by rfl, ?hy10⟩) (by assumption) ?ry10
  case hy10 => (intro wS hSw; (try dsimp only at hSw); go_simp; try (with_reducible rfl))
  (try simp only [Act.put, List.setIfInBounds_toArray, List.set_cons_zero, List.set_cons_succ])
  refine take_d (i := 10) (v := ?vy11) rfl (by rfl) (by kernel_rfl) (by kernel_rfl) (by kernel_rfl) (fun _ _ _ h => h) (Or.inl ⟨by rfl, ?hy11⟩) (by assumption) ?ry11
  case hy11 => (intro wS hSw; (try dsimp only at hSw); go_simp; try (with_reducible rfl))
  (try simp only [Act.put, List.setIfInBounds_toArray, List.set_cons_zero, List.set_cons_succ])
  refine wpAnyH_ready (rs := [11]) (by kernel_rfl) (by simp) ?_
  refine AllReadyH.cons rfl (fun K hK => ?_) AllReadyH.nil
  go_simp
  go_at_call 18
  refine (HW.out _).mono ?_
  rintro e wy12 ⟨rfl, bky12⟩
  have hBn := below_next hBk bky12
  clear hBk bky12
  have hBk := hBn
  clear hBn
  try go_simp
  refine hK.out _ _ ?_ (fun hHeld => ?_)
  · (try dsimp only); exact hBk
  clear hK K
  (try simp only [Act.put, List.setIfInBounds_toArray, List.set_cons_zero, List.set_cons_succ])
  refine take_d (i := 12) (v := ?vy13) rfl (by rfl) (by kernel_rfl) (by kernel_rfl) (by kernel_rfl) (fun _ _ _ h => h) (Or.inl ⟨by rfl, ?hy13⟩) (by assumption) ?ry13
  case hy13 => (intro wS hSw; (try dsimp only at hSw); go_simp; try (with_reducible rfl))
  (try simp only [Act.put, List.setIfInBounds_toArray, List.set_cons_zero, List.set_cons_succ])
  refine take_d (i := 13) (v := ?vy14) rfl (by rfl) (by kernel_rfl) (by kernel_rfl) (by kernel_rfl) (fun _ _ _ h => h) (Or.inl ⟨by rfl, ?hy14⟩) (by assumption) ?ry14
  case hy14 => (intro wS hSw; (try dsimp only at hSw); go_simp; try (with_reducible rfl))
  (try simp only [Act.put, List.setIfInBounds_toArray, List.set_cons_zero, List.set_cons_succ])
  refine wpAnyH_done (by kernel_rfl) ?_ _
  go_wp2
  go_ret
  exact ⟨rfl, below_next hI.out.bel hBk⟩
end Go.Proofs.Ytoanbjnhoggpjaa
