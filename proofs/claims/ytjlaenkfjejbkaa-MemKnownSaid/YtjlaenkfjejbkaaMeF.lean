/-
  Contracts of Right, as the landed code has it.
-/
import Derived.Test.YtjlaenkfjejbkaaMeV
namespace Go.Proofs.Ytjlaenkfjejbkaa
set_option linter.unusedSimpArgs false
set_option linter.unusedVariables false
open Go.ChangeShapes Go.WideShapes Go.ChangeAt Go.RowKit

/-- A frame in a block of the call's own. -/
structure FrI (g : Nat) (w W : World) (F : Nat → Sl) : Prop where
  bel : Below g w W
  sz : g < W.heap.size
  r0 : W.rangeAt g 0 (fC F)
theorem FrI.next {g : Nat} {w W W' : World} {F : Nat → Sl} (h : FrI g w W F) (hb : Below W.heap.size W W') : FrI g w W' F := by
  obtain ⟨hc, hf⟩ := bcell hb
  have hz := h.sz
  have hz' := hb.size
  exact ⟨below_next_w h.bel hb, by omega, range_below h.r0 (by omega) hc⟩
theorem FrI.first (w : World) (F : Nat → Sl) (t : TypeId) : FrI w.heap.size w (w.alloc (.cells (fC F).toArray t)) F := by
  refine ⟨(Below.refl _ _).alloc (Nat.le_refl _) _, by simp, ?_⟩
  intro j v hv
  rw [cell_of_row _ _ _ (fC F).toArray t (0, 0) (heap_alloc_last w _)]
  simpa using hv

theorem info33' : (Try.prog.info? 33).map (·.size) = some 13 := by kernel_rfl

theorem Right_any (F : Nat → Sl) (w : World) (hF : FOk F) : Calls Try.prog 15 #[fV F] w fun e w' => e = .returned (.bool (rightF F)) ∧ Below w.heap.size w w' := by
  have HR := hid (fun k hk W => right_any (F k) W (hF k hk))
  have HF := hid hF
  have I0 := hid (FrI.first w F 35)
  have hr : rightF F = (List.range 64).all fun k => rightS (F k) := rfl
  generalize hRR : rightF F = R at hr ⊢
  have HRR := hid hr
  obtain ⟨CF, hCF⟩ : ∃ CF, (fC F).toArray = CF := ⟨_, rfl⟩
  unfold fV
  rw [hCF] at I0 ⊢
  clear hF hr hRR hCF
  go_enter Try.func15, Try.ntmps15
  go_wp2_with fail
  go_loopw [4] (fun i w' => ∃ k : Nat, k ≤ 64 ∧ i = .int .i64 k ∧ Hid (∀ j, j < k → rightS (F j) = true) ∧ Hid (FrI w.heap.size w w' F)) (fun i _ => 64 - (intOf i).toNat)
  case atStart => exact ⟨0, by omega, rfl, hid (fun j hj => by omega), I0⟩
  case round =>
    obtain ⟨k, hk, rfl, hP, I1⟩ := hrel
    by_cases hlt : k < 64
    · have hlt' : (k : Int) < 64 := by omega
      have hrk : Hid (wr.rangeAt w.heap.size (k * 13) (sC (F k))) := hid (by have := range_at HF.out I1.out.r0 k hlt; rwa [Nat.zero_add] at this)
      have HS : Hid ((Try.prog.info? 33).map (·.size) = some (sC (F k)).length) := hid (by rw [sC_len (HF.out k hlt)]; exact info33')
      have HK := hid (HR.out k hlt)
      cases hb : rightS (F k)
      · rw [hb] at HK
        have hbb := hid hb
        clear hb
        go_wp2_with (first | (refine wpList_load_mid (op := ⟨_, .load 33 _, _, _, _, _⟩) rfl 33 _ rfl w.heap.size (k * 13) rfl (sC (F k)) _ hrk.out Try.underlying33 rfl HS.out ?_))
        refine (HK.out _).mono ?_
        rintro e w1 ⟨rfl, b1⟩
        have I2 := hid (I1.out.next b1)
        clear b1 hrk
        go_wp2
        go_ret
        refine ⟨ret_val ?_, I2.out.bel⟩
        have : (List.range 64).all (fun k => rightS (F k)) = false := by
          rw [List.all_eq_false]
          exact ⟨k, List.mem_range.2 hlt, by rw [hbb.out]; simp⟩
        rw [HRR.out, this]
        rfl
      · rw [hb] at HK
        have hbb := hid hb
        clear hb
        go_wp2_with (first | (refine wpList_load_mid (op := ⟨_, .load 33 _, _, _, _, _⟩) rfl 33 _ rfl w.heap.size (k * 13) rfl (sC (F k)) _ hrk.out Try.underlying33 rfl HS.out ?_))
        refine (HK.out _).mono ?_
        rintro e w1 ⟨rfl, b1⟩
        have I2 := hid (I1.out.next b1)
        clear b1 hrk
        go_wp2
        go_roundw
        case rel => exact ⟨k + 1, by omega, by go_num, hid (fun i hi => (Nat.lt_succ_iff_lt_or_eq.1 hi).elim (fun q => hP.out i q) (fun q => q ▸ hbb.out)), I2⟩
        case measure => simp [intOf]; omega
    · have hk8 : k = 64 := by omega
      subst hk8
      go_wp2
      go_ret
      refine ⟨ret_val ?_, I1.out.bel⟩
      have : (List.range 64).all (fun k => rightS (F k)) = true := by
        rw [List.all_eq_true]
        exact fun i hi => hP.out i (List.mem_range.1 hi)
      rw [HRR.out, this]
      rfl

end Go.Proofs.Ytjlaenkfjejbkaa
