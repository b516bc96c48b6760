/-
  StateJoin: the walk.
-/
import Derived.Test.YtodmikjpmcabiaaJSjE
import Derived.Test.YtodmikjpmcabiaaJStHr
import Derived.Test.YtodmikjpmcabiaaJHrU
import Derived.Deep.MidRow
import Derived.Deep.RegionHeld3
namespace Go.Proofs.Ytodmikjpmcabiaa
set_option linter.unusedSimpArgs false
set_option linter.unusedVariables false
set_option maxRecDepth 100000
set_option maxRecDepth 100000
open Go.ChangeShapes Go.WideShapes Go.ChangeAt Go.RowKit Me

theorem exec_eql {P : Program} {a : Act} {w : World} {d : Option Tmp} {x y : Operand} {tx ty t : TypeId} {ps : String} {af : Array Edge} {gd : Option (Tmp × Bool)} {r : Bool} (u v : Value) (hx : a.eval x = u) (hy : a.eval y = v) (hG : (eqGuard .eql tx x y u v).run P w = .ok () w) (h : (Go.binOp .eql tx u v).run P w = .ok (.bool r) w) : (execOp a.eval ⟨d, .binOp .eql tx x y ty, t, ps, af, gd⟩).run P w = .ok (.value (.bool r)) w := by
  subst hx hy
  unfold execOp
  simp [h, hG, Sem.run_bind, Result.andThen]
theorem yeg36 : Try.prog.eqGuardType Try.prog.depth 36 = false := by kernel_rfl
theorem yG36 (x y : Operand) (a b : Array Value) (W : World) : (eqGuard .eql 36 x y (.agg a) (.agg b)).run Try.prog W = .ok () W := by simp [eqGuard, run_program, yeg36]
theorem sEq_run (S : St) (h : StOk S) (W : World) : (binOp .eql 36 (.agg (stC S).toArray) (.agg (stC S).toArray)).run Try.prog W = .ok (.bool true) W := by
  have e := eq_st S S h h W
  rwa [(sEq_iff S S).2 rfl] at e
set_option maxHeartbeats 16000000 in
theorem join_walk (A B : St) (hA : StOk A) (hB : StOk B) (w : World) : Calls Try.prog 3 #[stV A, stV B] w fun e w' => e = .returned (.bool true) ∧ Below w.heap.size w w' := by
  have hJ := sJoin_StOk hA hB
  obtain ⟨J, hq⟩ : ∃ J, sJoin A B = J := ⟨_, rfl⟩
  rw [hq] at hJ
  have HE := sEq_run J hJ
  have HM : ∀ W, Calls Try.prog 7 #[.agg (stC A).toArray, .agg (stC B).toArray] W fun e w' => e = .returned (.agg (stC J).toArray) ∧ Below W.heap.size W w' := fun W => hq ▸ uJoin_any A B hA hB W
  have HD : ∀ W, Calls Try.prog 8 #[.agg (stC A).toArray, .agg (stC B).toArray] W fun e w' => e = .returned (.agg (stC J).toArray) ∧ Below W.heap.size W w' := fun W => hq ▸ rJoinS_any A B hA hB W
  have HW := hid wakes_any
  have a0 := RwT.new (g := w.heap.size) (n := 740) (w := w) (W := w) (cs := stC A) 36 (Below.refl _ _) (Nat.le_refl _) (stC_len A).symm
  have b0 := RwT.new (g := w.heap.size) (n := 740) (w := w) (cs := stC B) 36 a0.i.bel (by simp) (stC_len B).symm
  have I0 := (a0.alloc (by simp) (.cells (stC B).toArray 36)).i
  have J0 := b0.i
  have e1 : (w.alloc (.cells (stC A).toArray 36)).heap.size = w.heap.size + 1 := by simp
  rw [e1] at J0
  have hya := yhs A
  have hyb := yhs B
  unfold stV
  obtain ⟨CA, hCA⟩ : ∃ CF, (stC A).toArray = CF := ⟨_, rfl⟩
  obtain ⟨CB, hCB⟩ : ∃ CF, (stC B).toArray = CF := ⟨_, rfl⟩
  obtain ⟨CJ, hCJ⟩ : ∃ CF, (stC J).toArray = CF := ⟨_, rfl⟩
  rw [hCA, hCB] at I0 J0
  rw [hCA, hCB, hCJ] at HM HD
  rw [hCJ] at HE
  rw [hCA, hCB]
  replace HM := hid HM
  replace HD := hid HD
  replace HE := hid HE
  clear hA hB hq hJ hCJ a0 b0 e1
  go_enter Try.func3, Try.ntmps3
  refine wp_seq ?_
  refine Code.wp_mono (Q := CutX fun a' W' => (RwI w.heap.size w W' w.heap.size (stC A) ∧ RwI w.heap.size w W' (w.heap.size + 1) (stC B)) ∧ a' = ⟨#[.agg CA, .agg CB, .pointer (some ⟨w.heap.size, 0, none⟩), .pointer (some ⟨w.heap.size + 1, 0, none⟩), .bool false, undef, undef, undef, undef, undef, undef, undef, undef, undef, undef], []⟩) (CutX.imp ?_) ?_
  rotate_left
  · go_wp2
    exact ⟨⟨I0, J0⟩, rfl⟩
  clear I0 J0
  rintro a' w1 ⟨⟨I1, J1⟩, rfl⟩
  have ra := I1.r0
  have sa := I1.sz
  have rb := J1.r0
  have sb := J1.sz
  have hI := hid I1
  clear I1 J1
  go_wp2_with fail
  refine wp_region_held_drew (S := (fun w' : World => Below w1.heap.size w1 w')) (by kernel_rfl) ?_ (fun hHeld => ?_)
  · (try dsimp only); first | (with_reducible exact below_dr _) | (with_reducible exact Below.refl _ _) | exact below_dr _
  have hBk := below_dr w1
  refine take_d (i := 0) (v := _) rfl (by rfl) (by kernel_rfl) (by kernel_rfl) (by kernel_rfl) (fun _ _ _ h => h) (yieldsIf_load_mid (by rfl) _ _ rfl _ _ rfl (stC A) _ ?hx2_ Try.underlying36 rfl hya) (by assumption) ?rx2_
  case hx2_ => (intro wS hSw; exact range_below ra sa (Me.bcell hSw).1)
  try simp only [s1, s2, s3]
  refine take_d (i := 1) (v := _) rfl (by rfl) (by kernel_rfl) (by kernel_rfl) (by kernel_rfl) (fun _ _ _ h => h) (yieldsIf_load_mid (by rfl) _ _ rfl _ _ rfl (stC B) _ ?hx3_ Try.underlying36 rfl hyb) (by assumption) ?rx3_
  case hx3_ => (intro wS hSw; exact range_below rb sb (Me.bcell hSw).1)
  try simp only [s1, s2, s3]
  refine take_d (i := 3) (v := _) rfl (by rfl) (by kernel_rfl) (by kernel_rfl) (by kernel_rfl) (fun _ _ _ h => h) (yieldsIf_load_mid (by rfl) _ _ rfl _ _ rfl (stC A) _ ?hx4_ Try.underlying36 rfl hya) (by assumption) ?rx4_
  case hx4_ => (intro wS hSw; exact range_below ra sa (Me.bcell hSw).1)
  try simp only [s1, s2, s3]
  refine take_d (i := 4) (v := _) rfl (by rfl) (by kernel_rfl) (by kernel_rfl) (by kernel_rfl) (fun _ _ _ h => h) (yieldsIf_load_mid (by rfl) _ _ rfl _ _ rfl (stC B) _ ?hx5_ Try.underlying36 rfl hyb) (by assumption) ?rx5_
  case hx5_ => (intro wS hSw; exact range_below rb sb (Me.bcell hSw).1)
  try simp only [s1, s2, s3]
  rw [hCA, hCB]
  refine wpAnyH_ready (rs := [2]) (by kernel_rfl) (by simp) ?_
  refine AllReadyH.cons rfl (fun K hK => ?_) AllReadyH.nil
  go_simp
  go_at_call 7
  refine (HM.out _).mono ?_
  rintro e wz1_1 ⟨rfl, bkz1_1⟩
  have hBn := below_next hBk bkz1_1
  clear hBk bkz1_1
  have hBk := hBn
  clear hBn
  try go_simp
  refine hK.out _ _ ?_ (fun hHeld => ?_)
  · (try dsimp only); exact hBk
  clear hK K
  (try simp only [Act.put, List.setIfInBounds_toArray, List.set_cons_zero, List.set_cons_succ])
  refine wpAnyH_ready (rs := [5]) (by kernel_rfl) (by simp) ?_
  refine AllReadyH.cons rfl (fun K hK => ?_) AllReadyH.nil
  go_simp
  go_at_call 8
  refine (HD.out _).mono ?_
  rintro e wz1_2 ⟨rfl, bkz1_2⟩
  have hBn := below_next hBk bkz1_2
  clear hBk bkz1_2
  have hBk := hBn
  clear hBn
  try go_simp
  refine hK.out _ _ ?_ (fun hHeld => ?_)
  · (try dsimp only); exact hBk
  clear hK K
  (try simp only [Act.put, List.setIfInBounds_toArray, List.set_cons_zero, List.set_cons_succ])
  refine take_d (i := 6) (v := .bool true) rfl (by rfl) (by kernel_rfl) (by kernel_rfl) (by kernel_rfl) (fun _ _ _ h => h) (Or.inl ⟨by rfl, fun wS _ => exec_eql (.agg CJ) (.agg CJ) (by rfl) (by rfl) (yG36 _ _ _ _ _) (HE.out wS)⟩) (by assumption) ?rx6_
  try simp only [s1, s2, s3]
  refine tq 7 rfl (fun _ hS => by go_simp; try with_reducible rfl) ?_
  try simp only [s1, s2, s3]
  refine wpAnyH_ready (rs := [8]) (by kernel_rfl) (by simp) ?_
  refine AllReadyH.cons rfl (fun K hK => ?_) AllReadyH.nil
  go_simp
  go_at_call 9
  refine (HW.out _).mono ?_
  rintro e wz1_3 ⟨rfl, bkz1_3⟩
  have hBn := below_next hBk bkz1_3
  clear hBk bkz1_3
  have hBk := hBn
  clear hBn
  try go_simp
  refine hK.out _ _ ?_ (fun hHeld => ?_)
  · (try dsimp only); exact hBk
  clear hK K
  (try simp only [Act.put, List.setIfInBounds_toArray, List.set_cons_zero, List.set_cons_succ])
  refine tq 9 rfl (fun _ hS => by go_simp; try with_reducible rfl) ?_
  try simp only [s1, s2, s3]
  refine tq 10 rfl (fun _ hS => by go_simp; try with_reducible rfl) ?_
  try simp only [s1, s2, s3]
  refine wpAnyH_done (by kernel_rfl) ?_ _
  go_wp2
  go_ret
  exact ⟨rfl, below_next hI.out.bel hBk⟩
end Go.Proofs.Ytodmikjpmcabiaa
