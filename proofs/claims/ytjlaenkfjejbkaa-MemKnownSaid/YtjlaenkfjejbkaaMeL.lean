/-
  Contracts of Load, as the landed code has it.
-/
import Derived.Test.YtjlaenkfjejbkaaMeF
namespace Go.Proofs.Ytjlaenkfjejbkaa
set_option linter.unusedSimpArgs false
set_option linter.unusedVariables false
open Go.ChangeShapes Go.WideShapes Go.ChangeAt Go.RowKit

theorem place_ok {off size : Int} (hs : sizeB size = true) (h : placeE off size = 0) : 0 ≤ off ∧ off < 512 ∧ SzP (off % 8).toNat size.toNat ∧ (off / 8).toNat < 64 ∧ off / 8 = ((off / 8).toNat : Int) ∧ off % 8 = ((off % 8).toNat : Int) ∧ size = (size.toNat : Int) := by
  unfold placeE at h
  cases hw : withinB 512 off size
  · simp [hw] at h
  · have hw' : 0 ≤ off ∧ off ≤ 512 - size := by simpa [withinB] using hw
    have hm : off % size = 0 := by
      simp only [hw] at h
      by_cases e : off % size = 0
      · exact e
      · simp [e] at h
    obtain ⟨a, b⟩ := hw'
    unfold SzP
    rcases size_cases hs with rfl | rfl | rfl | rfl <;> refine ⟨a, by omega, ⟨by decide, by simp; omega⟩, by omega, by omega, by omega, by decide⟩

theorem frI_two (w : World) (F : Nat → Sl) (t : TypeId) (o : Obj) : FrI w.heap.size w ((w.alloc (.cells (fC F).toArray t)).alloc o) F :=
  (FrI.first w F t).next ((Below.refl _ _).alloc (Nat.le_refl _) _)
theorem frI_range {g : Nat} {w W : World} {F : Nat → Sl} (h : FrI g w W F) : W.rangeAt g 0 (fC F) := h.r0

theorem load_a (F : Nat → Sl) (off size : Int) (w : World) (hF : FOk F) (ho : -9223372036854775808 ≤ off ∧ off < 9223372036854775808) (hr : rightF F = false) :
    Calls Try.prog 11 #[fV F, .int .i64 off, .int .i64 size] w fun e w' => e = .returned (.tuple #[vV (loadF F off size).1, .int .i64 (loadF F off size).2]) ∧ Below w.heap.size w w' := by
  have HRt : Hid (∀ W, Calls Try.prog 15 #[.agg (fC F).toArray] W fun e w' => e = .returned (.bool false) ∧ Below W.heap.size W w') := fun W => hr ▸ Right_any F W hF
  have HI35 : Hid ((Try.prog.info? 35).map (·.size) = some (fC F).length) := hid (by rw [fC_len hF]; kernel_rfl)
  have I0 := hid (frI_two w F 35 (.cells #[.int .u8 0, .int .i64 0, .int .u64 0, .int .i64 0] 25))
  have HR0 := hid I0.out.r0
  have BV := bld_v0
  unfold fV
  have hL : loadF F off size = (v0, 1) := by simp [loadF, hr]
  rw [hL]
  unfold vV v0
  dsimp only
  clear hL hr hF ho
  go_enter Try.func11, Try.ntmps11
  go_wp2_with (refine wpList_load_mid (op := ⟨_, .load 35 _, _, _, _, _⟩) rfl 35 _ rfl w.heap.size 0 rfl (fC F) _ HR0.out Try.underlying35 rfl HI35.out ?_)
  refine (HRt.out _).mono ?_
  rintro e w1 ⟨rfl, b1⟩
  have I1 := hid (I0.out.next b1)
  have p1 : w.heap.size + 1 < w1.heap.size := by have := b1.size; simp at this; omega
  have q1 : w.heap.size < w1.heap.size := by omega
  obtain ⟨hc1, hf1⟩ := bcell b1
  clear b1 HR0
  go_wp2
  exact bodyPost_ret (v := .tuple #[.agg #[.int .u8 0, .int .i64 0, .int .u64 0, .int .i64 0], .int .i64 1]) (by simp [results, Try.results11, go_sem, hc1, p1, q1]) rfl ⟨rfl, ((((I1.out.bel.setCell (by simp) _).setCell (by simp) _).setCell (by simp) _).setCell (by simp) _)⟩
theorem load_b (F : Nat → Sl) (off size : Int) (w : World) (hF : FOk F) (ho : -9223372036854775808 ≤ off ∧ off < 9223372036854775808) (hr : rightF F = true) (hs : sizeB size = false) :
    Calls Try.prog 11 #[fV F, .int .i64 off, .int .i64 size] w fun e w' => e = .returned (.tuple #[vV (loadF F off size).1, .int .i64 (loadF F off size).2]) ∧ Below w.heap.size w w' := by
  have HRt : Hid (∀ W, Calls Try.prog 15 #[.agg (fC F).toArray] W fun e w' => e = .returned (.bool true) ∧ Below W.heap.size W w') := fun W => hr ▸ Right_any F W hF
  have HI35 : Hid ((Try.prog.info? 35).map (·.size) = some (fC F).length) := hid (by rw [fC_len hF]; kernel_rfl)
  have I0 := hid (frI_two w F 35 (.cells #[.int .u8 0, .int .i64 0, .int .u64 0, .int .i64 0] 25))
  have HR0 := hid I0.out.r0
  have BV := bld_v0
  unfold fV
  have hL : loadF F off size = (v0, 1) := by simp [loadF, hr, hs]
  have HZ : Hid (∀ W, Calls Try.prog 29 #[.int .i64 size] W fun e w' => e = .returned (.bool false) ∧ W = w') := fun W => hs ▸ isSize_any size W
  rw [hL]
  unfold vV v0
  dsimp only
  clear hL hr hF ho hs
  go_enter Try.func11, Try.ntmps11
  go_wp2_with (refine wpList_load_mid (op := ⟨_, .load 35 _, _, _, _, _⟩) rfl 35 _ rfl w.heap.size 0 rfl (fC F) _ HR0.out Try.underlying35 rfl HI35.out ?_)
  refine (HRt.out _).mono ?_
  rintro e w1 ⟨rfl, b1⟩
  have I1 := hid (I0.out.next b1)
  have p1 : w.heap.size + 1 < w1.heap.size := by have := b1.size; simp at this; omega
  have q1 : w.heap.size < w1.heap.size := by omega
  obtain ⟨hc1, hf1⟩ := bcell b1
  clear b1 HR0
  go_wp2_with ((go_at_call 29; refine (HZ.out _).mono ?_; rintro e w9 ⟨rfl, rfl⟩))
  exact bodyPost_ret (v := .tuple #[.agg #[.int .u8 0, .int .i64 0, .int .u64 0, .int .i64 0], .int .i64 1]) (by simp [results, Try.results11, go_sem, hc1, p1, q1]) rfl ⟨rfl, ((((I1.out.bel.setCell (by simp) _).setCell (by simp) _).setCell (by simp) _).setCell (by simp) _)⟩
theorem load_c (F : Nat → Sl) (off size : Int) (w : World) (hF : FOk F) (ho : -9223372036854775808 ≤ off ∧ off < 9223372036854775808) (hr : rightF F = true) (hs : sizeB size = true) (hp : placeE off size ≠ 0) :
    Calls Try.prog 11 #[fV F, .int .i64 off, .int .i64 size] w fun e w' => e = .returned (.tuple #[vV (loadF F off size).1, .int .i64 (loadF F off size).2]) ∧ Below w.heap.size w w' := by
  have HRt : Hid (∀ W, Calls Try.prog 15 #[.agg (fC F).toArray] W fun e w' => e = .returned (.bool true) ∧ Below W.heap.size W w') := fun W => hr ▸ Right_any F W hF
  have HI35 : Hid ((Try.prog.info? 35).map (·.size) = some (fC F).length) := hid (by rw [fC_len hF]; kernel_rfl)
  have I0 := hid (frI_two w F 35 (.cells #[.int .u8 0, .int .i64 0, .int .u64 0, .int .i64 0] 25))
  have HR0 := hid I0.out.r0
  have BV := bld_v0
  unfold fV
  have hL : loadF F off size = (v0, placeE off size) := by simp [loadF, hr, hs, hp]
  have HZ : Hid (∀ W, Calls Try.prog 29 #[.int .i64 size] W fun e w' => e = .returned (.bool true) ∧ W = w') := fun W => hs ▸ isSize_any size W
  have HO := hid (fun W => onStack_any off size W hs ho)
  rw [hL]
  generalize placeE off size = E at HO hp ⊢
  have hE : (E != 0) = true := by simpa using hp
  unfold vV v0
  dsimp only
  clear hL hr hF ho hs hp
  go_enter Try.func11, Try.ntmps11
  go_wp2_with (refine wpList_load_mid (op := ⟨_, .load 35 _, _, _, _, _⟩) rfl 35 _ rfl w.heap.size 0 rfl (fC F) _ HR0.out Try.underlying35 rfl HI35.out ?_)
  refine (HRt.out _).mono ?_
  rintro e w1 ⟨rfl, b1⟩
  have I1 := hid (I0.out.next b1)
  have p1 : w.heap.size + 1 < w1.heap.size := by have := b1.size; simp at this; omega
  have q1 : w.heap.size < w1.heap.size := by omega
  obtain ⟨hc1, hf1⟩ := bcell b1
  clear b1 HR0
  go_wp2_with (first | (go_at_call 29; refine (HZ.out _).mono ?_; rintro e w9 ⟨rfl, rfl⟩) | (go_at_call 30; refine (HO.out _).mono ?_; rintro e w9 ⟨rfl, rfl⟩))
  exact bodyPost_ret (v := .tuple #[.agg #[.int .u8 0, .int .i64 0, .int .u64 0, .int .i64 0], .int .i64 E]) (by simp [results, Try.results11, go_sem, hc1, p1, q1]) rfl ⟨rfl, ((((I1.out.bel.setCell (by simp) _).setCell (by simp) _).setCell (by simp) _).setCell (by simp) _)⟩
theorem load_d (F : Nat → Sl) (off size : Int) (w : World) (hF : FOk F) (ho : -9223372036854775808 ≤ off ∧ off < 9223372036854775808) (hr : rightF F = true) (hs : sizeB size = true) (hp : placeE off size = 0) :
    Calls Try.prog 11 #[fV F, .int .i64 off, .int .i64 size] w fun e w' => e = .returned (.tuple #[vV (loadF F off size).1, .int .i64 (loadF F off size).2]) ∧ Below w.heap.size w w' := by
  have HRt : Hid (∀ W, Calls Try.prog 15 #[.agg (fC F).toArray] W fun e w' => e = .returned (.bool true) ∧ Below W.heap.size W w') := fun W => hr ▸ Right_any F W hF
  have HI35 : Hid ((Try.prog.info? 35).map (·.size) = some (fC F).length) := hid (by rw [fC_len hF]; kernel_rfl)
  have I0 := hid (frI_two w F 35 (.cells #[.int .u8 0, .int .i64 0, .int .u64 0, .int .i64 0] 25))
  have HR0 := hid I0.out.r0
  have BV := bld_v0
  unfold fV
  have hL : loadF F off size = loadS (F (off / 8).toNat) (off % 8).toNat size.toNat := by simp [loadF, hr, hs, hp]
  have HZ : Hid (∀ W, Calls Try.prog 29 #[.int .i64 size] W fun e w' => e = .returned (.bool true) ∧ W = w') := fun W => hs ▸ isSize_any size W
  have HO := hid (fun W => onStack_any off size W hs ho)
  rw [hp] at HO
  obtain ⟨h0, h1, hz, h2, e1, e2, e3⟩ := place_ok hs hp
  have HLd := hid (fun W => sload_any (F (off / 8).toNat) (off % 8).toNat size.toNat W (hF _ h2) hz)
  rw [hL]
  generalize (off / 8).toNat = K at *
  generalize (off % 8).toNat = i at *
  generalize size.toNat = n at *
  subst e3
  have HS : Hid ((Try.prog.info? 33).map (·.size) = some (sC (F K)).length) := hid (by rw [sC_len (hF K h2)]; exact info33')
  have HF := hid hF
  have hK : (K : Int) < 64 := by omega
  generalize loadS (F K) i n = R at HLd ⊢
  obtain ⟨⟨k, m, x, o⟩, E⟩ := R
  unfold vV at HLd ⊢
  unfold sV at HLd
  dsimp only at HLd ⊢
  clear hL hr hF hs hp hz
  have h512 := h1
  clear h1
  go_enter Try.func11, Try.ntmps11
  go_wp2_with (refine wpList_load_mid (op := ⟨_, .load 35 _, _, _, _, _⟩) rfl 35 _ rfl w.heap.size 0 rfl (fC F) _ HR0.out Try.underlying35 rfl HI35.out ?_)
  refine (HRt.out _).mono ?_
  rintro e w1 ⟨rfl, b1⟩
  have I1 := hid (I0.out.next b1)
  have p1 : w.heap.size + 1 < w1.heap.size := by have := b1.size; simp at this; omega
  have q1 : w.heap.size < w1.heap.size := by omega
  obtain ⟨hc1, hf1⟩ := bcell b1
  clear b1 HR0
  have HRk : Hid (w1.rangeAt w.heap.size (K * 13) (sC (F K))) := hid (by have := range_at HF.out I1.out.r0 K h2; rwa [Nat.zero_add] at this)
  go_wp2_with (first | (go_at_call 29; refine (HZ.out _).mono ?_; rintro e w9 ⟨rfl, rfl⟩) | (go_at_call 30; refine (HO.out _).mono ?_; rintro e w9 ⟨rfl, rfl⟩) | (refine wpList_load_mid (op := ⟨_, .load 33 _, _, _, _, _⟩) rfl 33 _ rfl w.heap.size (K * 13) rfl (sC (F K)) _ HRk.out Try.underlying33 rfl HS.out ?_))
  refine (HLd.out _).mono ?_
  rintro e w2 ⟨rfl, b2⟩
  have I2 := hid (I1.out.next b2)
  have p2 : w.heap.size + 1 < w2.heap.size := by have := b2.size; omega
  have q2 : w.heap.size < w2.heap.size := by omega
  obtain ⟨hc2, hf2⟩ := bcell b2
  clear b2 HRk
  go_wp2
  exact bodyPost_ret (v := .tuple #[.agg #[.int .u8 k, .int .i64 m, .int .u64 x, .int .i64 o], .int .i64 E]) (by simp [results, Try.results11, go_sem, hc1, p1, q1, hc2, p2, q2]) rfl ⟨rfl, ((((I2.out.bel.setCell (by simp) _).setCell (by simp) _).setCell (by simp) _).setCell (by simp) _)⟩

theorem Load_any (F : Nat → Sl) (off size : Int) (w : World) (hF : FOk F) (ho : -9223372036854775808 ≤ off ∧ off < 9223372036854775808) :
    Calls Try.prog 11 #[fV F, .int .i64 off, .int .i64 size] w fun e w' => e = .returned (.tuple #[vV (loadF F off size).1, .int .i64 (loadF F off size).2]) ∧ Below w.heap.size w w' := by
  cases hr : rightF F
  · exact load_a F off size w hF ho hr
  cases hs : sizeB size
  · exact load_b F off size w hF ho hr hs
  by_cases hp : placeE off size = 0
  · exact load_d F off size w hF ho hr hs hp
  · exact load_c F off size w hF ho hr hs hp

end Go.Proofs.Ytjlaenkfjejbkaa
