/-
  The document's Store: what it refuses.
-/
import Derived.Test.YtjlaenkfjejbkaaMdR
import Derived.Test.YtjlaenkfjejbkaaMeI
namespace Go.Proofs.Ytjlaenkfjejbkaa
set_option linter.unusedSimpArgs false
set_option linter.unusedVariables false
open Go.ChangeShapes Go.WideShapes Go.ChangeAt Go.RowKit

theorem info29r : (Try.prog.info? 29).map (·.size) = some 832 := by kernel_rfl
theorem rzf_info : (Try.prog.info? 29).map (fun i => (i.zero, i.size)) = some (some (fV f0), 832) := by kernel_rfl
theorem rbld_f0 (W : World) : (Instr.build 29 #[]).run Try.prog W = .ok (fV f0) W := by
  have hz := (zero_of_info rzf_info).1 W
  have hi := info27
  unfold Instr.build
  rw [Sem.run_bind, hz]
  simp [Instr.fill, run_underlying Try.underlying29, sizeOf, typeInfo, fV]
  cases h : Try.prog.info? 27 with
  | none => rw [h] at hi; cases hi
  | some i => simp [Result.andThen, Value.cells]
theorem wpList_store_rf {ops : Array Oper} {rest : List Oper} {op : Oper} {a : Act} {w : World} {Q : Exit → Act → World → Prop} (x y : Operand) (hgd : op.guard = none) (ho : op.op = .store 29 x y)
    (b : Nat) (G : Nat → Sl) (hG : FOk G) (hx : a.eval x = .pointer (some ⟨b, 0, none⟩)) (hy : a.eval y = .agg (fC G).toArray) (ht : w.there b 0 832)
    (h : wpList Try.prog ops Q rest (a.put op.dst undef) (w.setCells b 0 (fC G))) : wpList Try.prog ops Q (op :: rest) a w :=
  wpList_store_mid hgd 29 x y ho b 0 (fC G).toArray hx hy (by rw [List.size_toArray, fC_len hG]; exact ht) (by rw [List.size_toArray, fC_len hG]; exact info29r) (all_oneCell_toArray (one_fC G)) h

/-- What a store keeps in its own memory: the frame at g, the value at g + 1, the answer's place at g + 2. -/
theorem rstore_a (F : Nat → Sl) (off size : Int) (v : Vl) (w : World) (hF : FOk F) (hv : VOk v) (ho : -9223372036854775808 ≤ off ∧ off < 9223372036854775808) (hr : rightF F = false) :
    Calls Try.prog 18 #[fV F, .int .i64 off, .int .i64 size, vV v] w fun e w' => e = .returned (.tuple #[fV (storeF F off size v).1, .int .i64 (storeF F off size v).2]) ∧ Below w.heap.size w w' := by
  have HRt : Hid (∀ W, Calls Try.prog 16 #[.agg (fC F).toArray] W fun e w' => e = .returned (.bool false) ∧ Below W.heap.size W w') := fun W => hr ▸ rRight_any F W hF
  have HI35 : Hid ((Try.prog.info? 29).map (·.size) = some (fC F).length) := hid (by rw [fC_len hF]; kernel_rfl)
  have I0 := hid (StF.first w F hF (.cells #[.int .u8 v.k, .int .i64 v.m, .int .u64 v.n, .int .i64 v.o] 25) 29 29)
  have HR0 := hid I0.out.r0
  have BF := rbld_f0
  have ZF := (zero_of_info rzf_info).1
  have hL : storeF F off size v = (f0, 1) := by simp [storeF, hr]
  rw [hL]
  unfold fV at BF ZF ⊢
  obtain ⟨q, m, x, o⟩ := v
  unfold vV
  dsimp only
  clear hL hr hF hv ho
  go_enter Try.func18, Try.ntmps18
  go_wp2_with (refine wpList_load_mid (op := ⟨_, .load 29 _, _, _, _, _⟩) rfl 29 _ rfl w.heap.size 0 rfl (fC F) _ HR0.out Try.underlying29 rfl HI35.out ?_)
  refine (HRt.out _).mono ?_
  rintro e w1 ⟨rfl, b1⟩
  have I1 := hid (I0.out.next b1)
  have p1 : w.heap.size + 1 + 1 < w1.heap.size := I1.out.sz
  have q1 : w.heap.size + 1 < w1.heap.size := by omega
  have r1 : w.heap.size < w1.heap.size := by omega
  obtain ⟨hc1, hf1⟩ := bcell b1
  clear b1
  clear HR0
  have HT := hid I1.out.t2
  go_wp2_with (first | (refine wpList_store_rf (op := ⟨_, .store 29 _ _, _, _, _, _⟩) _ _ rfl rfl (w.heap.size + 1 + 1) f0 f0_ok rfl rfl HT.out ?_))
  exact bodyPost_ret (res_cell rfl _ _ (w.heap.size + 1 + 1) 0 (fC f0) _ _ rfl rfl (World.rangeAt_setCells_same w1 (w.heap.size + 1 + 1) 0 (fC f0) (by rw [fC_len f0_ok]; exact HT.out)) Try.underlying29 rfl (by rw [fC_len f0_ok]; exact info29r)) rfl ⟨rfl, below_setCells (w.heap.size + 1 + 1) (by omega) (fC f0) 0 w1 I1.out.bel⟩
theorem rstore_b (F : Nat → Sl) (off size : Int) (v : Vl) (w : World) (hF : FOk F) (hv : VOk v) (ho : -9223372036854775808 ≤ off ∧ off < 9223372036854775808) (hr : rightF F = true) (hm : mayB v = false) :
    Calls Try.prog 18 #[fV F, .int .i64 off, .int .i64 size, vV v] w fun e w' => e = .returned (.tuple #[fV (storeF F off size v).1, .int .i64 (storeF F off size v).2]) ∧ Below w.heap.size w w' := by
  have HRt : Hid (∀ W, Calls Try.prog 16 #[.agg (fC F).toArray] W fun e w' => e = .returned (.bool true) ∧ Below W.heap.size W w') := fun W => hr ▸ rRight_any F W hF
  have HI35 : Hid ((Try.prog.info? 29).map (·.size) = some (fC F).length) := hid (by rw [fC_len hF]; kernel_rfl)
  have I0 := hid (StF.first w F hF (.cells #[.int .u8 v.k, .int .i64 v.m, .int .u64 v.n, .int .i64 v.o] 25) 29 29)
  have HR0 := hid I0.out.r0
  have BF := rbld_f0
  have ZF := (zero_of_info rzf_info).1
  have hL : storeF F off size v = (f0, 1) := by simp [storeF, hr, hm]
  have HM : Hid (∀ W, Calls Try.prog 21 #[vV v] W fun e w' => e = .returned (.bool false) ∧ Below W.heap.size W w') := fun W => hm ▸ rmay_any v W
  rw [hL]
  unfold fV at BF ZF ⊢
  obtain ⟨q, m, x, o⟩ := v
  unfold vV at HM ⊢
  dsimp only at HM ⊢
  clear hL hr hF hv ho hm
  go_enter Try.func18, Try.ntmps18
  go_wp2_with (refine wpList_load_mid (op := ⟨_, .load 29 _, _, _, _, _⟩) rfl 29 _ rfl w.heap.size 0 rfl (fC F) _ HR0.out Try.underlying29 rfl HI35.out ?_)
  refine (HRt.out _).mono ?_
  rintro e w1 ⟨rfl, b1⟩
  have I1 := hid (I0.out.next b1)
  have p1 : w.heap.size + 1 + 1 < w1.heap.size := I1.out.sz
  have q1 : w.heap.size + 1 < w1.heap.size := by omega
  have r1 : w.heap.size < w1.heap.size := by omega
  obtain ⟨hc1, hf1⟩ := bcell b1
  clear b1
  clear HR0
  go_wp2_with fail
  refine (HM.out _).mono ?_
  rintro e w2 ⟨rfl, b2⟩
  have I2 := hid (I1.out.next b2)
  have p2 : w.heap.size + 1 + 1 < w2.heap.size := I2.out.sz
  have q2 : w.heap.size + 1 < w2.heap.size := by omega
  have r2 : w.heap.size < w2.heap.size := by omega
  obtain ⟨hc2, hf2⟩ := bcell b2
  clear b2
  have HT := hid I2.out.t2
  go_wp2_with (first | (refine wpList_store_rf (op := ⟨_, .store 29 _ _, _, _, _, _⟩) _ _ rfl rfl (w.heap.size + 1 + 1) f0 f0_ok rfl rfl HT.out ?_))
  exact bodyPost_ret (res_cell rfl _ _ (w.heap.size + 1 + 1) 0 (fC f0) _ _ rfl rfl (World.rangeAt_setCells_same w2 (w.heap.size + 1 + 1) 0 (fC f0) (by rw [fC_len f0_ok]; exact HT.out)) Try.underlying29 rfl (by rw [fC_len f0_ok]; exact info29r)) rfl ⟨rfl, below_setCells (w.heap.size + 1 + 1) (by omega) (fC f0) 0 w2 I2.out.bel⟩
theorem rstore_c (F : Nat → Sl) (off size : Int) (v : Vl) (w : World) (hF : FOk F) (hv : VOk v) (ho : -9223372036854775808 ≤ off ∧ off < 9223372036854775808) (hr : rightF F = true) (hm : mayB v = true) (hs : sizeB size = false) :
    Calls Try.prog 18 #[fV F, .int .i64 off, .int .i64 size, vV v] w fun e w' => e = .returned (.tuple #[fV (storeF F off size v).1, .int .i64 (storeF F off size v).2]) ∧ Below w.heap.size w w' := by
  have HRt : Hid (∀ W, Calls Try.prog 16 #[.agg (fC F).toArray] W fun e w' => e = .returned (.bool true) ∧ Below W.heap.size W w') := fun W => hr ▸ rRight_any F W hF
  have HI35 : Hid ((Try.prog.info? 29).map (·.size) = some (fC F).length) := hid (by rw [fC_len hF]; kernel_rfl)
  have I0 := hid (StF.first w F hF (.cells #[.int .u8 v.k, .int .i64 v.m, .int .u64 v.n, .int .i64 v.o] 25) 29 29)
  have HR0 := hid I0.out.r0
  have BF := rbld_f0
  have ZF := (zero_of_info rzf_info).1
  have hL : storeF F off size v = (f0, 1) := by simp [storeF, hr, hm, hs]
  have HM : Hid (∀ W, Calls Try.prog 21 #[vV v] W fun e w' => e = .returned (.bool true) ∧ Below W.heap.size W w') := fun W => hm ▸ rmay_any v W
  have HZ : Hid (∀ W, Calls Try.prog 32 #[.int .i64 size] W fun e w' => e = .returned (.bool false) ∧ W = w') := fun W => hs ▸ rsized_any size W
  rw [hL]
  unfold fV at BF ZF ⊢
  obtain ⟨q, m, x, o⟩ := v
  unfold vV at HM ⊢
  dsimp only at HM ⊢
  clear hL hr hF hv ho hm hs
  go_enter Try.func18, Try.ntmps18
  go_wp2_with (refine wpList_load_mid (op := ⟨_, .load 29 _, _, _, _, _⟩) rfl 29 _ rfl w.heap.size 0 rfl (fC F) _ HR0.out Try.underlying29 rfl HI35.out ?_)
  refine (HRt.out _).mono ?_
  rintro e w1 ⟨rfl, b1⟩
  have I1 := hid (I0.out.next b1)
  have p1 : w.heap.size + 1 + 1 < w1.heap.size := I1.out.sz
  have q1 : w.heap.size + 1 < w1.heap.size := by omega
  have r1 : w.heap.size < w1.heap.size := by omega
  obtain ⟨hc1, hf1⟩ := bcell b1
  clear b1
  clear HR0
  go_wp2_with fail
  refine (HM.out _).mono ?_
  rintro e w2 ⟨rfl, b2⟩
  have I2 := hid (I1.out.next b2)
  have p2 : w.heap.size + 1 + 1 < w2.heap.size := I2.out.sz
  have q2 : w.heap.size + 1 < w2.heap.size := by omega
  have r2 : w.heap.size < w2.heap.size := by omega
  obtain ⟨hc2, hf2⟩ := bcell b2
  clear b2
  have HT := hid I2.out.t2
  go_wp2_with (first | (refine wpList_store_rf (op := ⟨_, .store 29 _ _, _, _, _, _⟩) _ _ rfl rfl (w.heap.size + 1 + 1) f0 f0_ok rfl rfl HT.out ?_) | (go_at_call 32; refine (HZ.out _).mono ?_; rintro e w9 ⟨rfl, rfl⟩))
  exact bodyPost_ret (res_cell rfl _ _ (w.heap.size + 1 + 1) 0 (fC f0) _ _ rfl rfl (World.rangeAt_setCells_same w2 (w.heap.size + 1 + 1) 0 (fC f0) (by rw [fC_len f0_ok]; exact HT.out)) Try.underlying29 rfl (by rw [fC_len f0_ok]; exact info29r)) rfl ⟨rfl, below_setCells (w.heap.size + 1 + 1) (by omega) (fC f0) 0 w2 I2.out.bel⟩
theorem rstore_d (F : Nat → Sl) (off size : Int) (v : Vl) (w : World) (hF : FOk F) (hv : VOk v) (ho : -9223372036854775808 ≤ off ∧ off < 9223372036854775808) (hr : rightF F = true) (hm : mayB v = true) (hs : sizeB size = true) (hk : v.k = 0) :
    Calls Try.prog 18 #[fV F, .int .i64 off, .int .i64 size, vV v] w fun e w' => e = .returned (.tuple #[fV (storeF F off size v).1, .int .i64 (storeF F off size v).2]) ∧ Below w.heap.size w w' := by
  have HRt : Hid (∀ W, Calls Try.prog 16 #[.agg (fC F).toArray] W fun e w' => e = .returned (.bool true) ∧ Below W.heap.size W w') := fun W => hr ▸ rRight_any F W hF
  have HI35 : Hid ((Try.prog.info? 29).map (·.size) = some (fC F).length) := hid (by rw [fC_len hF]; kernel_rfl)
  have I0 := hid (StF.first w F hF (.cells #[.int .u8 v.k, .int .i64 v.m, .int .u64 v.n, .int .i64 v.o] 25) 29 29)
  have HR0 := hid I0.out.r0
  have BF := rbld_f0
  have ZF := (zero_of_info rzf_info).1
  have hL : storeF F off size v = (f0, 40) := by simp [storeF, hr, hm, hs, hk]
  have HM : Hid (∀ W, Calls Try.prog 21 #[vV v] W fun e w' => e = .returned (.bool true) ∧ Below W.heap.size W w') := fun W => hm ▸ rmay_any v W
  have HZ : Hid (∀ W, Calls Try.prog 32 #[.int .i64 size] W fun e w' => e = .returned (.bool true) ∧ W = w') := fun W => hs ▸ rsized_any size W
  rw [hL]
  unfold fV at BF ZF ⊢
  obtain ⟨q, m, x, o⟩ := v
  dsimp only at hk
  subst hk
  unfold vV at HM ⊢
  dsimp only at HM ⊢
  clear hL hr hF hv ho hm hs
  go_enter Try.func18, Try.ntmps18
  go_wp2_with (refine wpList_load_mid (op := ⟨_, .load 29 _, _, _, _, _⟩) rfl 29 _ rfl w.heap.size 0 rfl (fC F) _ HR0.out Try.underlying29 rfl HI35.out ?_)
  refine (HRt.out _).mono ?_
  rintro e w1 ⟨rfl, b1⟩
  have I1 := hid (I0.out.next b1)
  have p1 : w.heap.size + 1 + 1 < w1.heap.size := I1.out.sz
  have q1 : w.heap.size + 1 < w1.heap.size := by omega
  have r1 : w.heap.size < w1.heap.size := by omega
  obtain ⟨hc1, hf1⟩ := bcell b1
  clear b1
  clear HR0
  go_wp2_with fail
  refine (HM.out _).mono ?_
  rintro e w2 ⟨rfl, b2⟩
  have I2 := hid (I1.out.next b2)
  have p2 : w.heap.size + 1 + 1 < w2.heap.size := I2.out.sz
  have q2 : w.heap.size + 1 < w2.heap.size := by omega
  have r2 : w.heap.size < w2.heap.size := by omega
  obtain ⟨hc2, hf2⟩ := bcell b2
  clear b2
  have HT := hid I2.out.t2
  go_wp2_with (first | (refine wpList_store_rf (op := ⟨_, .store 29 _ _, _, _, _, _⟩) _ _ rfl rfl (w.heap.size + 1 + 1) f0 f0_ok rfl rfl HT.out ?_) | (go_at_call 32; refine (HZ.out _).mono ?_; rintro e w9 ⟨rfl, rfl⟩))
  exact bodyPost_ret (res_cell rfl _ _ (w.heap.size + 1 + 1) 0 (fC f0) _ _ rfl rfl (World.rangeAt_setCells_same w2 (w.heap.size + 1 + 1) 0 (fC f0) (by rw [fC_len f0_ok]; exact HT.out)) Try.underlying29 rfl (by rw [fC_len f0_ok]; exact info29r)) rfl ⟨rfl, below_setCells (w.heap.size + 1 + 1) (by omega) (fC f0) 0 w2 I2.out.bel⟩
theorem rstore_e (F : Nat → Sl) (off size : Int) (v : Vl) (w : World) (hF : FOk F) (hv : VOk v) (ho : -9223372036854775808 ≤ off ∧ off < 9223372036854775808) (hr : rightF F = true) (hm : mayB v = true) (hs : sizeB size = true) (hk : v.k ≠ 0) (hp : placeE off size ≠ 0) :
    Calls Try.prog 18 #[fV F, .int .i64 off, .int .i64 size, vV v] w fun e w' => e = .returned (.tuple #[fV (storeF F off size v).1, .int .i64 (storeF F off size v).2]) ∧ Below w.heap.size w w' := by
  have HRt : Hid (∀ W, Calls Try.prog 16 #[.agg (fC F).toArray] W fun e w' => e = .returned (.bool true) ∧ Below W.heap.size W w') := fun W => hr ▸ rRight_any F W hF
  have HI35 : Hid ((Try.prog.info? 29).map (·.size) = some (fC F).length) := hid (by rw [fC_len hF]; kernel_rfl)
  have I0 := hid (StF.first w F hF (.cells #[.int .u8 v.k, .int .i64 v.m, .int .u64 v.n, .int .i64 v.o] 25) 29 29)
  have HR0 := hid I0.out.r0
  have BF := rbld_f0
  have ZF := (zero_of_info rzf_info).1
  have hL : storeF F off size v = (f0, placeE off size) := by simp [storeF, hr, hm, hs, hk, hp]
  have HM : Hid (∀ W, Calls Try.prog 21 #[vV v] W fun e w' => e = .returned (.bool true) ∧ Below W.heap.size W w') := fun W => hm ▸ rmay_any v W
  have HZ : Hid (∀ W, Calls Try.prog 32 #[.int .i64 size] W fun e w' => e = .returned (.bool true) ∧ W = w') := fun W => hs ▸ rsized_any size W
  have HO := hid (fun W => rplace_any off size W hs ho)
  rw [hL]
  unfold fV at BF ZF ⊢
  obtain ⟨q, m, x, o⟩ := v
  dsimp only at hk
  have hk' : (q == 0) = false := by simpa using hk
  unfold vV at HM ⊢
  dsimp only at HM ⊢
  generalize placeE off size = E at HO hp ⊢
  have hE : (E != 0) = true := by simpa using hp
  clear hL hr hF hv ho hm hs hk hp
  go_enter Try.func18, Try.ntmps18
  go_wp2_with (refine wpList_load_mid (op := ⟨_, .load 29 _, _, _, _, _⟩) rfl 29 _ rfl w.heap.size 0 rfl (fC F) _ HR0.out Try.underlying29 rfl HI35.out ?_)
  refine (HRt.out _).mono ?_
  rintro e w1 ⟨rfl, b1⟩
  have I1 := hid (I0.out.next b1)
  have p1 : w.heap.size + 1 + 1 < w1.heap.size := I1.out.sz
  have q1 : w.heap.size + 1 < w1.heap.size := by omega
  have r1 : w.heap.size < w1.heap.size := by omega
  obtain ⟨hc1, hf1⟩ := bcell b1
  clear b1
  clear HR0
  go_wp2_with fail
  refine (HM.out _).mono ?_
  rintro e w2 ⟨rfl, b2⟩
  have I2 := hid (I1.out.next b2)
  have p2 : w.heap.size + 1 + 1 < w2.heap.size := I2.out.sz
  have q2 : w.heap.size + 1 < w2.heap.size := by omega
  have r2 : w.heap.size < w2.heap.size := by omega
  obtain ⟨hc2, hf2⟩ := bcell b2
  clear b2
  have HT := hid I2.out.t2
  go_wp2_with (first | (refine wpList_store_rf (op := ⟨_, .store 29 _ _, _, _, _, _⟩) _ _ rfl rfl (w.heap.size + 1 + 1) f0 f0_ok rfl rfl HT.out ?_) | (go_at_call 32; refine (HZ.out _).mono ?_; rintro e w9 ⟨rfl, rfl⟩) | (go_at_call 33; refine (HO.out _).mono ?_; rintro e w9 ⟨rfl, rfl⟩))
  exact bodyPost_ret (res_cell rfl _ _ (w.heap.size + 1 + 1) 0 (fC f0) _ _ rfl rfl (World.rangeAt_setCells_same w2 (w.heap.size + 1 + 1) 0 (fC f0) (by rw [fC_len f0_ok]; exact HT.out)) Try.underlying29 rfl (by rw [fC_len f0_ok]; exact info29r)) rfl ⟨rfl, below_setCells (w.heap.size + 1 + 1) (by omega) (fC f0) 0 w2 I2.out.bel⟩

end Go.Proofs.Ytjlaenkfjejbkaa
