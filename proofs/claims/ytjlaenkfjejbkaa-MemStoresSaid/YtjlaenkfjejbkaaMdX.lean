/-
  MemStores: the law's same.
-/
import Derived.Test.YtjlaenkfjejbkaaMdU
import Derived.Test.YtjlaenkfjejbkaaMdO
import Derived.Test.YtjlaenkfjejbkaaMdW
import Derived.Test.YtjlaenkfjejbkaaMeS
namespace Go.Proofs.Ytjlaenkfjejbkaa
set_option linter.unusedSimpArgs false
set_option linter.unusedVariables false
open Go.ChangeShapes Go.WideShapes Go.ChangeAt Go.RowKit

theorem fB_self (F : Nat → Sl) : fB F F = true := (fB_iff F F).2 fun _ _ => rfl
theorem keepS2 {w6 W : World} {a b : Nat} {F G : Nat → Sl} (h1 : w6.rangeAt a 0 (fC F)) (h2 : w6.rangeAt b 0 (fC G)) (ha : a < w6.heap.size) (hb' : b < w6.heap.size) (hb : Below w6.heap.size w6 W) :
    W.rangeAt a 0 (fC F) ∧ W.rangeAt b 0 (fC G) ∧ Below w6.heap.size w6 W :=
  ⟨range_below h1 ha (bcell hb).1, range_below h2 hb' (bcell hb).1, hb⟩
theorem two_frames (w : World) (F : Nat → Sl) (s t : TypeId) : (w.alloc (.cells (fC F).toArray s)).alloc (.cells (fC F).toArray t) |>.rangeAt w.heap.size 0 (fC F) := World.rangeAt_alloc (range_new w (fC F).toArray s) _
theorem two_frames' (w : World) (F : Nat → Sl) (s t : TypeId) : (w.alloc (.cells (fC F).toArray s)).alloc (.cells (fC F).toArray t) |>.rangeAt (w.heap.size + 1) 0 (fC F) := by
  have := range_new (w.alloc (.cells (fC F).toArray s)) (fC F).toArray t
  rwa [show (w.alloc (.cells (fC F).toArray s)).heap.size = w.heap.size + 1 by simp] at this

set_option maxRecDepth 100000 in
set_option maxHeartbeats 3200000 in
theorem same_self (F : Nat → Sl) (w : World) (hF : FOk F) :
    Calls Try.prog 19 #[fV F, fV F] w fun e w' => e = .returned (.bool true) ∧ Below w.heap.size w w' := by
  have HOf := hid (fun W => Of_any F W hF)
  have hi35 : (Try.prog.info? 35).map (·.size) = some (fC F).length := by rw [fC_len hF]; kernel_rfl
  have hi29 : (Try.prog.info? 29).map (·.size) = some (fC F).length := by rw [fC_len hF]; kernel_rfl
  have EQF : ∀ W, (binOp .eql 35 (.agg (fC F).toArray) (.agg (fC F).toArray)).run Try.prog W = .ok (.bool true) W := fun W => by
    have := eq_f F F hF hF W
    unfold fV at this
    rw [this, fB_self]
  have RA := hid (two_frames w F 35 29)
  have RB := hid (two_frames' w F 35 29)
  have BB := hid (((Below.refl w.heap.size w).alloc (Nat.le_refl _) (.cells (fC F).toArray 35)).alloc (by simp) (.cells (fC F).toArray 29))
  have ZZ : Hid (w.heap.size + 1 < ((w.alloc (.cells (fC F).toArray 35)).alloc (.cells (fC F).toArray 29)).heap.size) := hid (by simp)
  have HI35 := hid hi35
  have HI29 := hid hi29
  unfold fV at HOf ⊢
  clear hF hi35 hi29
  go_enter Try.func19, Try.ntmps19
  go_wp2_with fail
  generalize (w.alloc (.cells (fC F).toArray 35)).alloc (.cells (fC F).toArray 29) = w6 at *
  have hz1 := ZZ.out
  have hz0 : w.heap.size < w6.heap.size := by omega
  have hi35 := HI35.out
  have hi29 := HI29.out
  have hu35 := Try.underlying35
  have hu29 := Try.underlying29
  have B66 := Below.refl w6.heap.size w6
  refine wp_region_held_drew (S := (fun w' : World => w'.rangeAt w.heap.size 0 (fC F) ∧ w'.rangeAt (w.heap.size + 1) 0 (fC F) ∧ Below w6.heap.size w6 w')) (by kernel_rfl) ?_ (fun hHeld => ?_)
  · (try dsimp only); (refine keepS2 RA.out RB.out hz0 hz1 ?_; (try go_split_ands); first | (with_reducible assumption) | ((with_reducible refine Below.drew ?_); with_reducible assumption))
  (try simp only [Act.put, List.setIfInBounds_toArray, List.set_cons_zero, List.set_cons_succ])
  refine take_d (i := 0) (v := _) rfl (by rfl) (by kernel_rfl) (by kernel_rfl) (by kernel_rfl) (fun _ _ _ h => h) (yieldsIf_load_mid (by rfl) _ _ rfl _ _ rfl (fC F) _ ?h12 hu35 rfl hi35) (by assumption) ?r12
  case h12 => (intro wS hSw; (try dsimp only at hSw); go_split_ands; assumption)
  (try simp only [Act.put, List.setIfInBounds_toArray, List.set_cons_zero, List.set_cons_succ])
  refine take_d (i := 1) (v := _) rfl (by rfl) (by kernel_rfl) (by kernel_rfl) (by kernel_rfl) (fun _ _ _ h => h) (yieldsIf_load_mid (by rfl) _ _ rfl _ _ rfl (fC F) _ ?h13 hu29 rfl hi29) (by assumption) ?r13
  case h13 => (intro wS hSw; (try dsimp only at hSw); go_split_ands; assumption)
  (try simp only [Act.put, List.setIfInBounds_toArray, List.set_cons_zero, List.set_cons_succ])
  refine wpAnyH_ready (rs := [2]) (by kernel_rfl) (by simp) ?_
  refine AllReadyH.cons rfl (fun K hK => ?_) AllReadyH.nil
  go_simp
  go_at_call 12
  go_split_ands
  refine (HOf.out _).mono ?_
  rintro e w7 ⟨rfl, b7⟩
  have hB7 := belowM (w2 := w6) b7 (by with_reducible assumption)
  clear b7
  try go_simp
  refine hK.out _ _ ?_ (fun hHeld => ?_)
  · (try dsimp only); (refine keepS2 RA.out RB.out hz0 hz1 ?_; (try go_split_ands); first | (with_reducible assumption) | ((with_reducible refine Below.drew ?_); with_reducible assumption))
  clear hK K hB7
  (try simp only [Act.put, List.setIfInBounds_toArray, List.set_cons_zero, List.set_cons_succ])
  refine take_d (i := 3) (v := ?v17) rfl (by rfl) (by kernel_rfl) (by kernel_rfl) (by kernel_rfl) (fun _ _ _ h => h) (Or.inl ⟨by rfl, ?h17⟩) (by assumption) ?r17
  case h17 => (intro wS hSw; (try dsimp only at hSw); go_simp; try (with_reducible rfl))
  (try simp only [Act.put, List.setIfInBounds_toArray, List.set_cons_zero, List.set_cons_succ])
  refine take_d (i := 4) (v := ?v18) rfl (by rfl) (by kernel_rfl) (by kernel_rfl) (by kernel_rfl) (fun _ _ _ h => h) (Or.inl ⟨by rfl, ?h18⟩) (by assumption) ?r18
  case h18 => (intro wS hSw; (try dsimp only at hSw); go_simp; try (with_reducible rfl))
  (try simp only [Act.put, List.setIfInBounds_toArray, List.set_cons_zero, List.set_cons_succ])
  refine wpAnyH_done (by kernel_rfl) ?_ _
  go_split_ands
  go_wp2
  go_ret
  exact ⟨rfl, below_next_w BB.out (by with_reducible assumption) (by omega)⟩

end Go.Proofs.Ytjlaenkfjejbkaa
