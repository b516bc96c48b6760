/-
  Contracts of Store, as the landed code has it.
-/
import Derived.Test.YtjlaenkfjejbkaaMeL
import Derived.Test.YtjlaenkfjejbkaaMeY
namespace Go.Proofs.Ytjlaenkfjejbkaa
set_option linter.unusedSimpArgs false
set_option linter.unusedVariables false
open Go.ChangeShapes Go.WideShapes Go.ChangeAt Go.RowKit

theorem zf_info : (Try.prog.info? 35).map (fun i => (i.zero, i.size)) = some (some (fV f0), 832) := by kernel_rfl
theorem one_fC (G : Nat → Sl) : ∀ v ∈ fC G, v.oneCell' = true := by
  intro v hv
  unfold fC at hv
  obtain ⟨k, _, h⟩ := List.mem_flatMap.1 hv
  exact one_sC _ v h
theorem bld_f0 (W : World) : (Instr.build 35 #[]).run Try.prog W = .ok (fV f0) W := by
  have hz := (zero_of_info zf_info).1 W
  have hi := info33
  unfold Instr.build
  rw [Sem.run_bind, hz]
  simp [Instr.fill, run_underlying Try.underlying35, sizeOf, typeInfo, fV]
  cases h : Try.prog.info? 33 with
  | none => rw [h] at hi; cases hi
  | some i => simp [Result.andThen, Value.cells]
theorem wpList_store_f {ops : Array Oper} {rest : List Oper} {op : Oper} {a : Act} {w : World} {Q : Exit → Act → World → Prop} (x y : Operand) (hgd : op.guard = none) (ho : op.op = .store 35 x y)
    (b : Nat) (G : Nat → Sl) (hG : FOk G) (hx : a.eval x = .pointer (some ⟨b, 0, none⟩)) (hy : a.eval y = .agg (fC G).toArray) (ht : w.there b 0 832)
    (h : wpList Try.prog ops Q rest (a.put op.dst undef) (w.setCells b 0 (fC G))) : wpList Try.prog ops Q (op :: rest) a w :=
  wpList_store_mid hgd 35 x y ho b 0 (fC G).toArray hx hy (by rw [List.size_toArray, fC_len hG]; exact ht) (by rw [List.size_toArray, fC_len hG]; exact info35) (all_oneCell_toArray (one_fC G)) h

/-- What a store keeps in its own memory: the frame at g, the value at g + 1, the answer's place at g + 2. -/
structure StF (g : Nat) (w W : World) (F : Nat → Sl) : Prop where
  bel : Below g w W
  sz : g + 1 + 1 < W.heap.size
  r0 : W.rangeAt g 0 (fC F)
  t0 : W.there g 0 832
  t2 : W.there (g + 1 + 1) 0 832
theorem StF.next {g : Nat} {w W W' : World} {F : Nat → Sl} (h : StF g w W F) (hb : Below W.heap.size W W') : StF g w W' F := by
  obtain ⟨hc, hf⟩ := bcell hb
  have hz := h.sz
  have hz' := hb.size
  exact ⟨below_next_w h.bel hb, by omega, range_below h.r0 (by omega) hc, there_below h.t0 (by omega) hc hf, there_below h.t2 (by omega) hc hf⟩
theorem StF.first (w : World) (F : Nat → Sl) (hF : FOk F) (o : Obj) (t0 t2 : TypeId) :
    StF w.heap.size w (((w.alloc (.cells (fC F).toArray t0)).alloc o).alloc (.cells (fC f0).toArray t2)) F := by
  refine ⟨(((Below.refl _ _).alloc (Nat.le_refl _) _).alloc (by simp) _).alloc (by simp; omega) _, by simp, ?_, ?_, ?_⟩
  · exact World.rangeAt_alloc (World.rangeAt_alloc (FrI.first w F t0).r0 _) _
  · exact World.there_alloc (World.there_alloc (there_box w _ t0 832 (by simp [fC_len hF])) _) _
  · have := there_box ((w.alloc (.cells (fC F).toArray t0)).alloc o) (fC f0).toArray t2 832 (by simp [fC_len f0_ok])
    simpa using this

theorem store_a (F : Nat → Sl) (off size : Int) (v : Vl) (w : World) (hF : FOk F) (hv : VOk v) (ho : -9223372036854775808 ≤ off ∧ off < 9223372036854775808) (hr : rightF F = false) :
    Calls Try.prog 17 #[fV F, .int .i64 off, .int .i64 size, vV v] w fun e w' => e = .returned (.tuple #[fV (storeF F off size v).1, .int .i64 (storeF F off size v).2]) ∧ Below w.heap.size w w' := by
  have HRt : Hid (∀ W, Calls Try.prog 15 #[.agg (fC F).toArray] W fun e w' => e = .returned (.bool false) ∧ Below W.heap.size W w') := fun W => hr ▸ Right_any F W hF
  have HI35 : Hid ((Try.prog.info? 35).map (·.size) = some (fC F).length) := hid (by rw [fC_len hF]; kernel_rfl)
  have I0 := hid (StF.first w F hF (.cells #[.int .u8 v.k, .int .i64 v.m, .int .u64 v.n, .int .i64 v.o] 25) 35 35)
  have HR0 := hid I0.out.r0
  have BF := bld_f0
  have ZF := (zero_of_info zf_info).1
  have hL : storeF F off size v = (f0, 1) := by simp [storeF, hr]
  rw [hL]
  unfold fV at BF ZF ⊢
  obtain ⟨q, m, x, o⟩ := v
  unfold vV
  dsimp only
  clear hL hr hF hv ho
  go_enter Try.func17, Try.ntmps17
  go_wp2_with (refine wpList_load_mid (op := ⟨_, .load 35 _, _, _, _, _⟩) rfl 35 _ rfl w.heap.size 0 rfl (fC F) _ HR0.out Try.underlying35 rfl HI35.out ?_)
  refine (HRt.out _).mono ?_
  rintro e w1 ⟨rfl, b1⟩
  have I1 := hid (I0.out.next b1)
  have p1 : w.heap.size + 1 + 1 < w1.heap.size := I1.out.sz
  have q1 : w.heap.size + 1 < w1.heap.size := by omega
  have r1 : w.heap.size < w1.heap.size := by omega
  obtain ⟨hc1, hf1⟩ := bcell b1
  clear b1
  clear HR0
  have HT := hid I1.out.t2
  go_wp2_with (first | (refine wpList_store_f (op := ⟨_, .store 35 _ _, _, _, _, _⟩) _ _ rfl rfl (w.heap.size + 1 + 1) f0 f0_ok rfl rfl HT.out ?_))
  exact bodyPost_ret (res_cell rfl _ _ (w.heap.size + 1 + 1) 0 (fC f0) _ _ rfl rfl (World.rangeAt_setCells_same w1 (w.heap.size + 1 + 1) 0 (fC f0) (by rw [fC_len f0_ok]; exact HT.out)) Try.underlying35 rfl (by rw [fC_len f0_ok]; exact info35)) rfl ⟨rfl, below_setCells (w.heap.size + 1 + 1) (by omega) (fC f0) 0 w1 I1.out.bel⟩
theorem store_b (F : Nat → Sl) (off size : Int) (v : Vl) (w : World) (hF : FOk F) (hv : VOk v) (ho : -9223372036854775808 ≤ off ∧ off < 9223372036854775808) (hr : rightF F = true) (hm : mayB v = false) :
    Calls Try.prog 17 #[fV F, .int .i64 off, .int .i64 size, vV v] w fun e w' => e = .returned (.tuple #[fV (storeF F off size v).1, .int .i64 (storeF F off size v).2]) ∧ Below w.heap.size w w' := by
  have HRt : Hid (∀ W, Calls Try.prog 15 #[.agg (fC F).toArray] W fun e w' => e = .returned (.bool true) ∧ Below W.heap.size W w') := fun W => hr ▸ Right_any F W hF
  have HI35 : Hid ((Try.prog.info? 35).map (·.size) = some (fC F).length) := hid (by rw [fC_len hF]; kernel_rfl)
  have I0 := hid (StF.first w F hF (.cells #[.int .u8 v.k, .int .i64 v.m, .int .u64 v.n, .int .i64 v.o] 25) 35 35)
  have HR0 := hid I0.out.r0
  have BF := bld_f0
  have ZF := (zero_of_info zf_info).1
  have hL : storeF F off size v = (f0, 1) := by simp [storeF, hr, hm]
  have HM : Hid (∀ W, Calls Try.prog 20 #[vV v] W fun e w' => e = .returned (.bool false) ∧ Below W.heap.size W w') := fun W => hm ▸ may_any v W
  rw [hL]
  unfold fV at BF ZF ⊢
  obtain ⟨q, m, x, o⟩ := v
  unfold vV at HM ⊢
  dsimp only at HM ⊢
  clear hL hr hF hv ho hm
  go_enter Try.func17, Try.ntmps17
  go_wp2_with (refine wpList_load_mid (op := ⟨_, .load 35 _, _, _, _, _⟩) rfl 35 _ rfl w.heap.size 0 rfl (fC F) _ HR0.out Try.underlying35 rfl HI35.out ?_)
  refine (HRt.out _).mono ?_
  rintro e w1 ⟨rfl, b1⟩
  have I1 := hid (I0.out.next b1)
  have p1 : w.heap.size + 1 + 1 < w1.heap.size := I1.out.sz
  have q1 : w.heap.size + 1 < w1.heap.size := by omega
  have r1 : w.heap.size < w1.heap.size := by omega
  obtain ⟨hc1, hf1⟩ := bcell b1
  clear b1
  clear HR0
  go_wp2_with fail
  refine (HM.out _).mono ?_
  rintro e w2 ⟨rfl, b2⟩
  have I2 := hid (I1.out.next b2)
  have p2 : w.heap.size + 1 + 1 < w2.heap.size := I2.out.sz
  have q2 : w.heap.size + 1 < w2.heap.size := by omega
  have r2 : w.heap.size < w2.heap.size := by omega
  obtain ⟨hc2, hf2⟩ := bcell b2
  clear b2
  have HT := hid I2.out.t2
  go_wp2_with (first | (refine wpList_store_f (op := ⟨_, .store 35 _ _, _, _, _, _⟩) _ _ rfl rfl (w.heap.size + 1 + 1) f0 f0_ok rfl rfl HT.out ?_))
  exact bodyPost_ret (res_cell rfl _ _ (w.heap.size + 1 + 1) 0 (fC f0) _ _ rfl rfl (World.rangeAt_setCells_same w2 (w.heap.size + 1 + 1) 0 (fC f0) (by rw [fC_len f0_ok]; exact HT.out)) Try.underlying35 rfl (by rw [fC_len f0_ok]; exact info35)) rfl ⟨rfl, below_setCells (w.heap.size + 1 + 1) (by omega) (fC f0) 0 w2 I2.out.bel⟩
theorem store_c (F : Nat → Sl) (off size : Int) (v : Vl) (w : World) (hF : FOk F) (hv : VOk v) (ho : -9223372036854775808 ≤ off ∧ off < 9223372036854775808) (hr : rightF F = true) (hm : mayB v = true) (hs : sizeB size = false) :
    Calls Try.prog 17 #[fV F, .int .i64 off, .int .i64 size, vV v] w fun e w' => e = .returned (.tuple #[fV (storeF F off size v).1, .int .i64 (storeF F off size v).2]) ∧ Below w.heap.size w w' := by
  have HRt : Hid (∀ W, Calls Try.prog 15 #[.agg (fC F).toArray] W fun e w' => e = .returned (.bool true) ∧ Below W.heap.size W w') := fun W => hr ▸ Right_any F W hF
  have HI35 : Hid ((Try.prog.info? 35).map (·.size) = some (fC F).length) := hid (by rw [fC_len hF]; kernel_rfl)
  have I0 := hid (StF.first w F hF (.cells #[.int .u8 v.k, .int .i64 v.m, .int .u64 v.n, .int .i64 v.o] 25) 35 35)
  have HR0 := hid I0.out.r0
  have BF := bld_f0
  have ZF := (zero_of_info zf_info).1
  have hL : storeF F off size v = (f0, 1) := by simp [storeF, hr, hm, hs]
  have HM : Hid (∀ W, Calls Try.prog 20 #[vV v] W fun e w' => e = .returned (.bool true) ∧ Below W.heap.size W w') := fun W => hm ▸ may_any v W
  have HZ : Hid (∀ W, Calls Try.prog 29 #[.int .i64 size] W fun e w' => e = .returned (.bool false) ∧ W = w') := fun W => hs ▸ isSize_any size W
  rw [hL]
  unfold fV at BF ZF ⊢
  obtain ⟨q, m, x, o⟩ := v
  unfold vV at HM ⊢
  dsimp only at HM ⊢
  clear hL hr hF hv ho hm hs
  go_enter Try.func17, Try.ntmps17
  go_wp2_with (refine wpList_load_mid (op := ⟨_, .load 35 _, _, _, _, _⟩) rfl 35 _ rfl w.heap.size 0 rfl (fC F) _ HR0.out Try.underlying35 rfl HI35.out ?_)
  refine (HRt.out _).mono ?_
  rintro e w1 ⟨rfl, b1⟩
  have I1 := hid (I0.out.next b1)
  have p1 : w.heap.size + 1 + 1 < w1.heap.size := I1.out.sz
  have q1 : w.heap.size + 1 < w1.heap.size := by omega
  have r1 : w.heap.size < w1.heap.size := by omega
  obtain ⟨hc1, hf1⟩ := bcell b1
  clear b1
  clear HR0
  go_wp2_with fail
  refine (HM.out _).mono ?_
  rintro e w2 ⟨rfl, b2⟩
  have I2 := hid (I1.out.next b2)
  have p2 : w.heap.size + 1 + 1 < w2.heap.size := I2.out.sz
  have q2 : w.heap.size + 1 < w2.heap.size := by omega
  have r2 : w.heap.size < w2.heap.size := by omega
  obtain ⟨hc2, hf2⟩ := bcell b2
  clear b2
  have HT := hid I2.out.t2
  go_wp2_with (first | (refine wpList_store_f (op := ⟨_, .store 35 _ _, _, _, _, _⟩) _ _ rfl rfl (w.heap.size + 1 + 1) f0 f0_ok rfl rfl HT.out ?_) | (go_at_call 29; refine (HZ.out _).mono ?_; rintro e w9 ⟨rfl, rfl⟩))
  exact bodyPost_ret (res_cell rfl _ _ (w.heap.size + 1 + 1) 0 (fC f0) _ _ rfl rfl (World.rangeAt_setCells_same w2 (w.heap.size + 1 + 1) 0 (fC f0) (by rw [fC_len f0_ok]; exact HT.out)) Try.underlying35 rfl (by rw [fC_len f0_ok]; exact info35)) rfl ⟨rfl, below_setCells (w.heap.size + 1 + 1) (by omega) (fC f0) 0 w2 I2.out.bel⟩
theorem store_d (F : Nat → Sl) (off size : Int) (v : Vl) (w : World) (hF : FOk F) (hv : VOk v) (ho : -9223372036854775808 ≤ off ∧ off < 9223372036854775808) (hr : rightF F = true) (hm : mayB v = true) (hs : sizeB size = true) (hk : v.k = 0) :
    Calls Try.prog 17 #[fV F, .int .i64 off, .int .i64 size, vV v] w fun e w' => e = .returned (.tuple #[fV (storeF F off size v).1, .int .i64 (storeF F off size v).2]) ∧ Below w.heap.size w w' := by
  have HRt : Hid (∀ W, Calls Try.prog 15 #[.agg (fC F).toArray] W fun e w' => e = .returned (.bool true) ∧ Below W.heap.size W w') := fun W => hr ▸ Right_any F W hF
  have HI35 : Hid ((Try.prog.info? 35).map (·.size) = some (fC F).length) := hid (by rw [fC_len hF]; kernel_rfl)
  have I0 := hid (StF.first w F hF (.cells #[.int .u8 v.k, .int .i64 v.m, .int .u64 v.n, .int .i64 v.o] 25) 35 35)
  have HR0 := hid I0.out.r0
  have BF := bld_f0
  have ZF := (zero_of_info zf_info).1
  have hL : storeF F off size v = (f0, 40) := by simp [storeF, hr, hm, hs, hk]
  have HM : Hid (∀ W, Calls Try.prog 20 #[vV v] W fun e w' => e = .returned (.bool true) ∧ Below W.heap.size W w') := fun W => hm ▸ may_any v W
  have HZ : Hid (∀ W, Calls Try.prog 29 #[.int .i64 size] W fun e w' => e = .returned (.bool true) ∧ W = w') := fun W => hs ▸ isSize_any size W
  rw [hL]
  unfold fV at BF ZF ⊢
  obtain ⟨q, m, x, o⟩ := v
  dsimp only at hk
  subst hk
  unfold vV at HM ⊢
  dsimp only at HM ⊢
  clear hL hr hF hv ho hm hs
  go_enter Try.func17, Try.ntmps17
  go_wp2_with (refine wpList_load_mid (op := ⟨_, .load 35 _, _, _, _, _⟩) rfl 35 _ rfl w.heap.size 0 rfl (fC F) _ HR0.out Try.underlying35 rfl HI35.out ?_)
  refine (HRt.out _).mono ?_
  rintro e w1 ⟨rfl, b1⟩
  have I1 := hid (I0.out.next b1)
  have p1 : w.heap.size + 1 + 1 < w1.heap.size := I1.out.sz
  have q1 : w.heap.size + 1 < w1.heap.size := by omega
  have r1 : w.heap.size < w1.heap.size := by omega
  obtain ⟨hc1, hf1⟩ := bcell b1
  clear b1
  clear HR0
  go_wp2_with fail
  refine (HM.out _).mono ?_
  rintro e w2 ⟨rfl, b2⟩
  have I2 := hid (I1.out.next b2)
  have p2 : w.heap.size + 1 + 1 < w2.heap.size := I2.out.sz
  have q2 : w.heap.size + 1 < w2.heap.size := by omega
  have r2 : w.heap.size < w2.heap.size := by omega
  obtain ⟨hc2, hf2⟩ := bcell b2
  clear b2
  have HT := hid I2.out.t2
  go_wp2_with (first | (refine wpList_store_f (op := ⟨_, .store 35 _ _, _, _, _, _⟩) _ _ rfl rfl (w.heap.size + 1 + 1) f0 f0_ok rfl rfl HT.out ?_) | (go_at_call 29; refine (HZ.out _).mono ?_; rintro e w9 ⟨rfl, rfl⟩))
  exact bodyPost_ret (res_cell rfl _ _ (w.heap.size + 1 + 1) 0 (fC f0) _ _ rfl rfl (World.rangeAt_setCells_same w2 (w.heap.size + 1 + 1) 0 (fC f0) (by rw [fC_len f0_ok]; exact HT.out)) Try.underlying35 rfl (by rw [fC_len f0_ok]; exact info35)) rfl ⟨rfl, below_setCells (w.heap.size + 1 + 1) (by omega) (fC f0) 0 w2 I2.out.bel⟩
theorem store_e (F : Nat → Sl) (off size : Int) (v : Vl) (w : World) (hF : FOk F) (hv : VOk v) (ho : -9223372036854775808 ≤ off ∧ off < 9223372036854775808) (hr : rightF F = true) (hm : mayB v = true) (hs : sizeB size = true) (hk : v.k ≠ 0) (hp : placeE off size ≠ 0) :
    Calls Try.prog 17 #[fV F, .int .i64 off, .int .i64 size, vV v] w fun e w' => e = .returned (.tuple #[fV (storeF F off size v).1, .int .i64 (storeF F off size v).2]) ∧ Below w.heap.size w w' := by
  have HRt : Hid (∀ W, Calls Try.prog 15 #[.agg (fC F).toArray] W fun e w' => e = .returned (.bool true) ∧ Below W.heap.size W w') := fun W => hr ▸ Right_any F W hF
  have HI35 : Hid ((Try.prog.info? 35).map (·.size) = some (fC F).length) := hid (by rw [fC_len hF]; kernel_rfl)
  have I0 := hid (StF.first w F hF (.cells #[.int .u8 v.k, .int .i64 v.m, .int .u64 v.n, .int .i64 v.o] 25) 35 35)
  have HR0 := hid I0.out.r0
  have BF := bld_f0
  have ZF := (zero_of_info zf_info).1
  have hL : storeF F off size v = (f0, placeE off size) := by simp [storeF, hr, hm, hs, hk, hp]
  have HM : Hid (∀ W, Calls Try.prog 20 #[vV v] W fun e w' => e = .returned (.bool true) ∧ Below W.heap.size W w') := fun W => hm ▸ may_any v W
  have HZ : Hid (∀ W, Calls Try.prog 29 #[.int .i64 size] W fun e w' => e = .returned (.bool true) ∧ W = w') := fun W => hs ▸ isSize_any size W
  have HO := hid (fun W => onStack_any off size W hs ho)
  rw [hL]
  unfold fV at BF ZF ⊢
  obtain ⟨q, m, x, o⟩ := v
  dsimp only at hk
  have hk' : (q == 0) = false := by simpa using hk
  unfold vV at HM ⊢
  dsimp only at HM ⊢
  generalize placeE off size = E at HO hp ⊢
  have hE : (E != 0) = true := by simpa using hp
  clear hL hr hF hv ho hm hs hk hp
  go_enter Try.func17, Try.ntmps17
  go_wp2_with (refine wpList_load_mid (op := ⟨_, .load 35 _, _, _, _, _⟩) rfl 35 _ rfl w.heap.size 0 rfl (fC F) _ HR0.out Try.underlying35 rfl HI35.out ?_)
  refine (HRt.out _).mono ?_
  rintro e w1 ⟨rfl, b1⟩
  have I1 := hid (I0.out.next b1)
  have p1 : w.heap.size + 1 + 1 < w1.heap.size := I1.out.sz
  have q1 : w.heap.size + 1 < w1.heap.size := by omega
  have r1 : w.heap.size < w1.heap.size := by omega
  obtain ⟨hc1, hf1⟩ := bcell b1
  clear b1
  clear HR0
  go_wp2_with fail
  refine (HM.out _).mono ?_
  rintro e w2 ⟨rfl, b2⟩
  have I2 := hid (I1.out.next b2)
  have p2 : w.heap.size + 1 + 1 < w2.heap.size := I2.out.sz
  have q2 : w.heap.size + 1 < w2.heap.size := by omega
  have r2 : w.heap.size < w2.heap.size := by omega
  obtain ⟨hc2, hf2⟩ := bcell b2
  clear b2
  have HT := hid I2.out.t2
  go_wp2_with (first | (refine wpList_store_f (op := ⟨_, .store 35 _ _, _, _, _, _⟩) _ _ rfl rfl (w.heap.size + 1 + 1) f0 f0_ok rfl rfl HT.out ?_) | (go_at_call 29; refine (HZ.out _).mono ?_; rintro e w9 ⟨rfl, rfl⟩) | (go_at_call 30; refine (HO.out _).mono ?_; rintro e w9 ⟨rfl, rfl⟩))
  exact bodyPost_ret (res_cell rfl _ _ (w.heap.size + 1 + 1) 0 (fC f0) _ _ rfl rfl (World.rangeAt_setCells_same w2 (w.heap.size + 1 + 1) 0 (fC f0) (by rw [fC_len f0_ok]; exact HT.out)) Try.underlying35 rfl (by rw [fC_len f0_ok]; exact info35)) rfl ⟨rfl, below_setCells (w.heap.size + 1 + 1) (by omega) (fC f0) 0 w2 I2.out.bel⟩

end Go.Proofs.Ytjlaenkfjejbkaa
