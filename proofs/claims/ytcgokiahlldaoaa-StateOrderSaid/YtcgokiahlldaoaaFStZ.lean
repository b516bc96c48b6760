/-
  StateOrder: the walks.
-/
import Derived.Test.YtcgokiahlldaoaaFStY
import Derived.Deep.MidRow
namespace Go.Proofs.Ytcgokiahlldaoaa
set_option linter.unusedSimpArgs false
set_option linter.unusedVariables false
set_option maxRecDepth 100000
set_option maxRecDepth 100000
open Go.ChangeShapes Go.WideShapes Go.ChangeAt Go.RowKit Me

theorem at_bin {P : Program} {ops : Array Oper} {Q : Exit → Act → World → Prop} {rest : List Oper} {a : Act} {w : World} {d : Option Tmp} {x y : Operand} {o : BinOp} {tx ty : TypeId} {t : TypeId} {ps : String} {af : Array Edge} {gd : Option (Tmp × Bool)}
    (h : wpList P ops Q (⟨d, .binOp o tx x y ty, t, ps, af, gd⟩ :: rest) a w) : wpList P ops Q (⟨d, .binOp o tx x y ty, t, ps, af, gd⟩ :: rest) a w := h
theorem exec_eql {P : Program} {a : Act} {w : World} {d : Option Tmp} {x y : Operand} {tx ty t : TypeId} {ps : String} {af : Array Edge} {gd : Option (Tmp × Bool)} {r : Bool} (u v : Value) (hx : a.eval x = u) (hy : a.eval y = v) (hG : (eqGuard .eql tx x y u v).run P w = .ok () w) (h : (Go.binOp .eql tx u v).run P w = .ok (.bool r) w) : (execOp a.eval ⟨d, .binOp .eql tx x y ty, t, ps, af, gd⟩).run P w = .ok (.value (.bool r)) w := by
  subst hx hy
  unfold execOp
  simp [h, hG, Sem.run_bind, Result.andThen]
theorem yeg36 : Try.prog.eqGuardType Try.prog.depth 36 = false := by kernel_rfl
theorem yG36 (x y : Operand) (a b : Array Value) (W : World) : (eqGuard .eql 36 x y (.agg a) (.agg b)).run Try.prog W = .ok () W := by simp [eqGuard, run_program, yeg36]
theorem st_entry3 {w : World} (A B C : St) {CA CB CC : Array Value} (ha : (stC A).toArray = CA) (hb : (stC B).toArray = CB) (hc : (stC C).toArray = CC) : RwT w.heap.size w (((w.alloc (.cells CA 36)).alloc (.cells CB 36)).alloc (.cells CC 36)) w.heap.size 740 (stC A) ∧
    RwT w.heap.size w (((w.alloc (.cells CA 36)).alloc (.cells CB 36)).alloc (.cells CC 36)) (w.heap.size + 1) 740 (stC B) ∧
    RwT w.heap.size w (((w.alloc (.cells CA 36)).alloc (.cells CB 36)).alloc (.cells CC 36)) (w.heap.size + 1 + 1) 740 (stC C) := by
  subst ha hb hc
  have a := RwT.new (g := w.heap.size) (n := 740) (w := w) (W := w) (cs := stC A) 36 (Below.refl _ _) (Nat.le_refl _) (by rw [stC_len])
  have b := RwT.new (g := w.heap.size) (n := 740) (w := w) (cs := stC B) 36 a.i.bel (by simp) (by rw [stC_len])
  have c := RwT.new (g := w.heap.size) (n := 740) (w := w) (cs := stC C) 36 b.i.bel (by simp; omega) (by rw [stC_len])
  refine ⟨(a.alloc (by simp) _).alloc (by simp; omega) _, ?_, ?_⟩
  · have := b.alloc (by simp; omega) (.cells (stC C).toArray 36)
    simpa using this
  · simpa using c
set_option maxHeartbeats 16000000 in
theorem ord_a (A B C : St) (hA : StOk A) (hB : StOk B) (hC : StOk C) (ma : sMay A = false) (iab : sIn A B = false) (w : World) : Calls Try.prog 8 #[stV A, stV B, stV C] w fun e w' => e = .returned (.bool true) ∧ Below w.heap.size w w' := by
  have HMa : Hid (∀ W, Calls Try.prog 11 #[.agg (stC A).toArray] W fun e w' => e = .returned (.bool false) ∧ Below W.heap.size W w') := hid fun W => ma ▸ uMay_any A hA W
  have HIaa : Hid (∀ W, Calls Try.prog 19 #[.agg (stC A).toArray, .agg (stC A).toArray] W fun e w' => e = .returned (.bool false) ∧ Below W.heap.size W w') := hid fun W => ((sIn_self A).trans ma) ▸ uIn_any A A hA hA W
  have HIab : Hid (∀ W, Calls Try.prog 19 #[.agg (stC A).toArray, .agg (stC B).toArray] W fun e w' => e = .returned (.bool false) ∧ Below W.heap.size W w') := hid fun W => iab ▸ uIn_any A B hA hB W
  have hj : sJoin A B = st0 := by unfold sJoin; rw [if_neg (by simp [ma])]
  have HJ : Hid (∀ W, Calls Try.prog 21 #[.agg (stC A).toArray, .agg (stC B).toArray] W fun e w' => e = .returned (.agg (stC st0).toArray) ∧ Below W.heap.size W w') := hid fun W => hj ▸ uJoin_any A B hA hB W
  clear hj
  have HW := hid wakes_any
  have ZS : ∀ w, (zeroValue 36).run Try.prog w = .ok (.agg (stC st0).toArray) w := (zero_of_info zs_info).1
  have BS : ∀ w, (Instr.build 36 #[]).run Try.prog w = .ok (.agg (stC st0).toArray) w := bld_s0
  have EQ := y_eq0
  have YN : ∀ (W : World) (S : St), Below w.heap.size w W → w.heap.size ≤ W.heap.size → RwT w.heap.size w ((W.alloc (.cells (stC st0).toArray 36)).setCells W.heap.size 0 (stC S)) W.heap.size 740 (stC S) := fun W S h hg => ynew_st S h hg
  have YT := ythere_st
  generalize st0 = Z0 at *
  replace YN := hid YN
  replace YT := hid YT
  replace EQ := hid EQ
  unfold stV
  obtain ⟨CA, hCA⟩ : ∃ CF, (stC A).toArray = CF := ⟨_, rfl⟩
  obtain ⟨CB, hCB⟩ : ∃ CF, (stC B).toArray = CF := ⟨_, rfl⟩
  obtain ⟨CC, hCC⟩ : ∃ CF, (stC C).toArray = CF := ⟨_, rfl⟩
  obtain ⟨XA, XB, XC⟩ := st_entry3 (w := w) A B C hCA hCB hCC
  rw [hCA, hCB, hCC]
  replace XA := hid XA
  replace XB := hid XB
  replace XC := hid XC
  clear hCA hCB hCC hA hB hC ma iab
  go_enter Try.func8, Try.ntmps8
  go_wp2_with (first | ((with_reducible refine at_load (d := some 9) 36 ?_); refine wpList_load_g (by rfl) 36 _ rfl w.heap.size 0 rfl (stC A) _ XA.out.i.r0 Try.underlying36 rfl (yhs _) ?_))
  refine (HMa.out _).mono ?_
  rintro e w1 ⟨rfl, z⟩
  have ys := (show w.heap.size ≤ w.heap.size from Nat.le_refl _)
  have XAn := XA.out.next z (by simp; omega)
  have XBn := XB.out.next z (by simp; omega)
  have XCn := XC.out.next z (by simp; omega)
  clear z ys XA XB XC
  have XA := hid XAn
  clear XAn
  have XB := hid XBn
  clear XBn
  have XC := hid XCn
  clear XCn
  go_wp2_with (first | ((with_reducible refine at_load (d := some 11) 36 ?_); refine wpList_load_g (by rfl) 36 _ rfl w.heap.size 0 rfl (stC A) _ XA.out.i.r0 Try.underlying36 rfl (yhs _) ?_) | ((with_reducible refine at_load (d := some 12) 36 ?_); refine wpList_load_g (by rfl) 36 _ rfl w.heap.size 0 rfl (stC A) _ XA.out.i.r0 Try.underlying36 rfl (yhs _) ?_))
  refine (HIaa.out _).mono ?_
  rintro e w2 ⟨rfl, z⟩
  have ys := XA.out.i.bel.size
  have XAn := XA.out.next z XA.out.i.bel.size
  have XBn := XB.out.next z XA.out.i.bel.size
  have XCn := XC.out.next z XA.out.i.bel.size
  clear z ys XA XB XC
  have XA := hid XAn
  clear XAn
  have XB := hid XBn
  clear XBn
  have XC := hid XCn
  clear XCn
  go_wp2_with (first | ((with_reducible refine at_load (d := some 16) 36 ?_); refine wpList_load_g (by rfl) 36 _ rfl w.heap.size 0 rfl (stC A) _ XA.out.i.r0 Try.underlying36 rfl (yhs _) ?_) | ((with_reducible refine at_load (d := some 17) 36 ?_); refine wpList_load_g (by rfl) 36 _ rfl (w.heap.size + 1) 0 rfl (stC B) _ XB.out.i.r0 Try.underlying36 rfl (yhs _) ?_))
  refine (HIab.out _).mono ?_
  rintro e w3 ⟨rfl, z⟩
  have ys := XA.out.i.bel.size
  have XAn := XA.out.next z XA.out.i.bel.size
  have XBn := XB.out.next z XA.out.i.bel.size
  have XCn := XC.out.next z XA.out.i.bel.size
  clear z ys XA XB XC
  have XA := hid XAn
  clear XAn
  have XB := hid XBn
  clear XBn
  have XC := hid XCn
  clear XCn
  go_wp2_with (first | ((with_reducible refine at_load (d := some 30) 36 ?_); refine wpList_load_g (by rfl) 36 _ rfl w.heap.size 0 rfl (stC A) _ XA.out.i.r0 Try.underlying36 rfl (yhs _) ?_) | ((with_reducible refine at_load (d := some 31) 36 ?_); refine wpList_load_g (by rfl) 36 _ rfl (w.heap.size + 1) 0 rfl (stC B) _ XB.out.i.r0 Try.underlying36 rfl (yhs _) ?_))
  refine (HJ.out _).mono ?_
  rintro e w4 ⟨rfl, z⟩
  have ys := XA.out.i.bel.size
  have XAn := XA.out.next z XA.out.i.bel.size
  have XBn := XB.out.next z XA.out.i.bel.size
  have XCn := XC.out.next z XA.out.i.bel.size
  clear z ys XA XB XC
  have XA := hid XAn
  clear XAn
  have XB := hid XBn
  clear XBn
  have XC := hid XCn
  clear XCn
  have BE := XA.out.i.bel
  have XJ := hid (YN.out w4 Z0 BE BE.size)
  have TJ := hid (YT.out w4)
  have XAn := XA.out.made (o := .cells (stC Z0).toArray 36) (c := w4.heap.size) (m := 0) (vs := stC Z0) BE.size rfl
  clear XA
  have XA := hid XAn
  clear XAn
  have XBn := XB.out.made (o := .cells (stC Z0).toArray 36) (c := w4.heap.size) (m := 0) (vs := stC Z0) BE.size rfl
  clear XB
  have XB := hid XBn
  clear XBn
  have XCn := XC.out.made (o := .cells (stC Z0).toArray 36) (c := w4.heap.size) (m := 0) (vs := stC Z0) BE.size rfl
  clear XC
  have XC := hid XCn
  clear XCn
  have lJ := BE.size
  clear BE
  have lz : w.heap.size ≤ w4.heap.size := lJ
  go_wp2_with (first | ((with_reducible refine at_load (d := some 40) 36 ?_); refine wpList_load_g (by rfl) 36 _ rfl w4.heap.size 0 rfl (stC Z0) _ XJ.out.i.r0 Try.underlying36 rfl (yhs _) ?_) | ((with_reducible refine at_load (d := some 44) 36 ?_); refine wpList_load_g (by rfl) 36 _ rfl w.heap.size 0 rfl (stC A) _ XA.out.i.r0 Try.underlying36 rfl (yhs _) ?_) | ((with_reducible refine at_load (d := some 45) 36 ?_); refine wpList_load_g (by rfl) 36 _ rfl (w.heap.size + 1) 0 rfl (stC B) _ XB.out.i.r0 Try.underlying36 rfl (yhs _) ?_) | ((with_reducible refine at_store (x := .tmp 8) (y := .tmp 32) 36 ?_); refine wpList_store_st (.tmp 8) (.tmp 32) rfl rfl w4.heap.size Z0 rfl rfl TJ.out ?_) | ((with_reducible refine at_bin (d := some 42) ?_); refine wpList_val (.bool true) ?e1 ?e2 ?e3; (case e1 => rfl); (case e2 => exact exec_eql (.agg (stC Z0).toArray) (.agg (stC Z0).toArray) rfl rfl (yG36 _ _ _ _ _) (EQ.out _))))
  refine (HIab.out _).mono ?_
  rintro e w5 ⟨rfl, z⟩
  have ys := XA.out.i.bel.size
  have XAn := XA.out.next z XA.out.i.bel.size
  have XBn := XB.out.next z XA.out.i.bel.size
  have XCn := XC.out.next z XA.out.i.bel.size
  have XJn := XJ.out.next z XA.out.i.bel.size
  clear z ys XA XB XC XJ
  have XA := hid XAn
  clear XAn
  have XB := hid XBn
  clear XBn
  have XC := hid XCn
  clear XCn
  have XJ := hid XJn
  clear XJn
  go_wp2_with fail
  refine (HW.out _).mono ?_
  rintro e w6 ⟨rfl, z⟩
  have ys := XA.out.i.bel.size
  have XAn := XA.out.next z XA.out.i.bel.size
  have XBn := XB.out.next z XA.out.i.bel.size
  have XCn := XC.out.next z XA.out.i.bel.size
  have XJn := XJ.out.next z XA.out.i.bel.size
  clear z ys XA XB XC XJ
  have XA := hid XAn
  clear XAn
  have XB := hid XBn
  clear XBn
  have XC := hid XCn
  clear XCn
  have XJ := hid XJn
  clear XJn
  go_wp2_with fail
  go_ret
  exact ⟨rfl, XA.out.i.bel⟩
set_option maxHeartbeats 16000000 in
theorem ord_b (A B C : St) (hA : StOk A) (hB : StOk B) (hC : StOk C) (ma : sMay A = true) (mb : sMay B = false) (iab : sIn A B = false) (w : World) : Calls Try.prog 8 #[stV A, stV B, stV C] w fun e w' => e = .returned (.bool true) ∧ Below w.heap.size w w' := by
  have HMa : Hid (∀ W, Calls Try.prog 11 #[.agg (stC A).toArray] W fun e w' => e = .returned (.bool true) ∧ Below W.heap.size W w') := hid fun W => ma ▸ uMay_any A hA W
  have HIaa : Hid (∀ W, Calls Try.prog 19 #[.agg (stC A).toArray, .agg (stC A).toArray] W fun e w' => e = .returned (.bool true) ∧ Below W.heap.size W w') := hid fun W => ((sIn_self A).trans ma) ▸ uIn_any A A hA hA W
  have HIab : Hid (∀ W, Calls Try.prog 19 #[.agg (stC A).toArray, .agg (stC B).toArray] W fun e w' => e = .returned (.bool false) ∧ Below W.heap.size W w') := hid fun W => iab ▸ uIn_any A B hA hB W
  have HMb : Hid (∀ W, Calls Try.prog 11 #[.agg (stC B).toArray] W fun e w' => e = .returned (.bool false) ∧ Below W.heap.size W w') := hid fun W => mb ▸ uMay_any B hB W
  have hj : sJoin A B = st0 := by unfold sJoin; rw [if_neg (by simp [ma, mb])]
  have HJ : Hid (∀ W, Calls Try.prog 21 #[.agg (stC A).toArray, .agg (stC B).toArray] W fun e w' => e = .returned (.agg (stC st0).toArray) ∧ Below W.heap.size W w') := hid fun W => hj ▸ uJoin_any A B hA hB W
  clear hj
  have HW := hid wakes_any
  have ZS : ∀ w, (zeroValue 36).run Try.prog w = .ok (.agg (stC st0).toArray) w := (zero_of_info zs_info).1
  have BS : ∀ w, (Instr.build 36 #[]).run Try.prog w = .ok (.agg (stC st0).toArray) w := bld_s0
  have EQ := y_eq0
  have YN : ∀ (W : World) (S : St), Below w.heap.size w W → w.heap.size ≤ W.heap.size → RwT w.heap.size w ((W.alloc (.cells (stC st0).toArray 36)).setCells W.heap.size 0 (stC S)) W.heap.size 740 (stC S) := fun W S h hg => ynew_st S h hg
  have YT := ythere_st
  generalize st0 = Z0 at *
  replace YN := hid YN
  replace YT := hid YT
  replace EQ := hid EQ
  unfold stV
  obtain ⟨CA, hCA⟩ : ∃ CF, (stC A).toArray = CF := ⟨_, rfl⟩
  obtain ⟨CB, hCB⟩ : ∃ CF, (stC B).toArray = CF := ⟨_, rfl⟩
  obtain ⟨CC, hCC⟩ : ∃ CF, (stC C).toArray = CF := ⟨_, rfl⟩
  obtain ⟨XA, XB, XC⟩ := st_entry3 (w := w) A B C hCA hCB hCC
  rw [hCA, hCB, hCC]
  replace XA := hid XA
  replace XB := hid XB
  replace XC := hid XC
  clear hCA hCB hCC hA hB hC ma mb iab
  go_enter Try.func8, Try.ntmps8
  go_wp2_with (first | ((with_reducible refine at_load (d := some 9) 36 ?_); refine wpList_load_g (by rfl) 36 _ rfl w.heap.size 0 rfl (stC A) _ XA.out.i.r0 Try.underlying36 rfl (yhs _) ?_))
  refine (HMa.out _).mono ?_
  rintro e w1 ⟨rfl, z⟩
  have ys := (show w.heap.size ≤ w.heap.size from Nat.le_refl _)
  have XAn := XA.out.next z (by simp; omega)
  have XBn := XB.out.next z (by simp; omega)
  have XCn := XC.out.next z (by simp; omega)
  clear z ys XA XB XC
  have XA := hid XAn
  clear XAn
  have XB := hid XBn
  clear XBn
  have XC := hid XCn
  clear XCn
  go_wp2_with (first | ((with_reducible refine at_load (d := some 11) 36 ?_); refine wpList_load_g (by rfl) 36 _ rfl w.heap.size 0 rfl (stC A) _ XA.out.i.r0 Try.underlying36 rfl (yhs _) ?_) | ((with_reducible refine at_load (d := some 12) 36 ?_); refine wpList_load_g (by rfl) 36 _ rfl w.heap.size 0 rfl (stC A) _ XA.out.i.r0 Try.underlying36 rfl (yhs _) ?_))
  refine (HIaa.out _).mono ?_
  rintro e w2 ⟨rfl, z⟩
  have ys := XA.out.i.bel.size
  have XAn := XA.out.next z XA.out.i.bel.size
  have XBn := XB.out.next z XA.out.i.bel.size
  have XCn := XC.out.next z XA.out.i.bel.size
  clear z ys XA XB XC
  have XA := hid XAn
  clear XAn
  have XB := hid XBn
  clear XBn
  have XC := hid XCn
  clear XCn
  go_wp2_with (first | ((with_reducible refine at_load (d := some 16) 36 ?_); refine wpList_load_g (by rfl) 36 _ rfl w.heap.size 0 rfl (stC A) _ XA.out.i.r0 Try.underlying36 rfl (yhs _) ?_) | ((with_reducible refine at_load (d := some 17) 36 ?_); refine wpList_load_g (by rfl) 36 _ rfl (w.heap.size + 1) 0 rfl (stC B) _ XB.out.i.r0 Try.underlying36 rfl (yhs _) ?_))
  refine (HIab.out _).mono ?_
  rintro e w3 ⟨rfl, z⟩
  have ys := XA.out.i.bel.size
  have XAn := XA.out.next z XA.out.i.bel.size
  have XBn := XB.out.next z XA.out.i.bel.size
  have XCn := XC.out.next z XA.out.i.bel.size
  clear z ys XA XB XC
  have XA := hid XAn
  clear XAn
  have XB := hid XBn
  clear XBn
  have XC := hid XCn
  clear XCn
  go_wp2_with (first | ((with_reducible refine at_load (d := some 30) 36 ?_); refine wpList_load_g (by rfl) 36 _ rfl w.heap.size 0 rfl (stC A) _ XA.out.i.r0 Try.underlying36 rfl (yhs _) ?_) | ((with_reducible refine at_load (d := some 31) 36 ?_); refine wpList_load_g (by rfl) 36 _ rfl (w.heap.size + 1) 0 rfl (stC B) _ XB.out.i.r0 Try.underlying36 rfl (yhs _) ?_))
  refine (HJ.out _).mono ?_
  rintro e w4 ⟨rfl, z⟩
  have ys := XA.out.i.bel.size
  have XAn := XA.out.next z XA.out.i.bel.size
  have XBn := XB.out.next z XA.out.i.bel.size
  have XCn := XC.out.next z XA.out.i.bel.size
  clear z ys XA XB XC
  have XA := hid XAn
  clear XAn
  have XB := hid XBn
  clear XBn
  have XC := hid XCn
  clear XCn
  have BE := XA.out.i.bel
  have XJ := hid (YN.out w4 Z0 BE BE.size)
  have TJ := hid (YT.out w4)
  have XAn := XA.out.made (o := .cells (stC Z0).toArray 36) (c := w4.heap.size) (m := 0) (vs := stC Z0) BE.size rfl
  clear XA
  have XA := hid XAn
  clear XAn
  have XBn := XB.out.made (o := .cells (stC Z0).toArray 36) (c := w4.heap.size) (m := 0) (vs := stC Z0) BE.size rfl
  clear XB
  have XB := hid XBn
  clear XBn
  have XCn := XC.out.made (o := .cells (stC Z0).toArray 36) (c := w4.heap.size) (m := 0) (vs := stC Z0) BE.size rfl
  clear XC
  have XC := hid XCn
  clear XCn
  have lJ := BE.size
  clear BE
  have lz : w.heap.size ≤ w4.heap.size := lJ
  go_wp2_with (first | ((with_reducible refine at_load (d := some 36) 36 ?_); refine wpList_load_g (by rfl) 36 _ rfl (w.heap.size + 1) 0 rfl (stC B) _ XB.out.i.r0 Try.underlying36 rfl (yhs _) ?_) | ((with_reducible refine at_store (x := .tmp 8) (y := .tmp 32) 36 ?_); refine wpList_store_st (.tmp 8) (.tmp 32) rfl rfl w4.heap.size Z0 rfl rfl TJ.out ?_))
  refine (HMb.out _).mono ?_
  rintro e w5 ⟨rfl, z⟩
  have ys := XA.out.i.bel.size
  have XAn := XA.out.next z XA.out.i.bel.size
  have XBn := XB.out.next z XA.out.i.bel.size
  have XCn := XC.out.next z XA.out.i.bel.size
  have XJn := XJ.out.next z XA.out.i.bel.size
  clear z ys XA XB XC XJ
  have XA := hid XAn
  clear XAn
  have XB := hid XBn
  clear XBn
  have XC := hid XCn
  clear XCn
  have XJ := hid XJn
  clear XJn
  go_wp2_with (first | ((with_reducible refine at_load (d := some 40) 36 ?_); refine wpList_load_g (by rfl) 36 _ rfl w4.heap.size 0 rfl (stC Z0) _ XJ.out.i.r0 Try.underlying36 rfl (yhs _) ?_) | ((with_reducible refine at_load (d := some 44) 36 ?_); refine wpList_load_g (by rfl) 36 _ rfl w.heap.size 0 rfl (stC A) _ XA.out.i.r0 Try.underlying36 rfl (yhs _) ?_) | ((with_reducible refine at_load (d := some 45) 36 ?_); refine wpList_load_g (by rfl) 36 _ rfl (w.heap.size + 1) 0 rfl (stC B) _ XB.out.i.r0 Try.underlying36 rfl (yhs _) ?_) | ((with_reducible refine at_bin (d := some 42) ?_); refine wpList_val (.bool true) ?e1 ?e2 ?e3; (case e1 => rfl); (case e2 => exact exec_eql (.agg (stC Z0).toArray) (.agg (stC Z0).toArray) rfl rfl (yG36 _ _ _ _ _) (EQ.out _))))
  refine (HIab.out _).mono ?_
  rintro e w6 ⟨rfl, z⟩
  have ys := XA.out.i.bel.size
  have XAn := XA.out.next z XA.out.i.bel.size
  have XBn := XB.out.next z XA.out.i.bel.size
  have XCn := XC.out.next z XA.out.i.bel.size
  have XJn := XJ.out.next z XA.out.i.bel.size
  clear z ys XA XB XC XJ
  have XA := hid XAn
  clear XAn
  have XB := hid XBn
  clear XBn
  have XC := hid XCn
  clear XCn
  have XJ := hid XJn
  clear XJn
  go_wp2_with fail
  refine (HW.out _).mono ?_
  rintro e w7 ⟨rfl, z⟩
  have ys := XA.out.i.bel.size
  have XAn := XA.out.next z XA.out.i.bel.size
  have XBn := XB.out.next z XA.out.i.bel.size
  have XCn := XC.out.next z XA.out.i.bel.size
  have XJn := XJ.out.next z XA.out.i.bel.size
  clear z ys XA XB XC XJ
  have XA := hid XAn
  clear XAn
  have XB := hid XBn
  clear XBn
  have XC := hid XCn
  clear XCn
  have XJ := hid XJn
  clear XJn
  go_wp2_with fail
  go_ret
  exact ⟨rfl, XA.out.i.bel⟩
set_option maxHeartbeats 16000000 in
theorem ord_000 (A B C : St) (hA : StOk A) (hB : StOk B) (hC : StOk C) (ma : sMay A = true) (mb : sMay B = true) (iab : sIn A B = false) (ibc : sIn B C = false) (iac : sIn A C = false) (w : World) : Calls Try.prog 8 #[stV A, stV B, stV C] w fun e w' => e = .returned (.bool true) ∧ Below w.heap.size w w' := by
  have HMa : Hid (∀ W, Calls Try.prog 11 #[.agg (stC A).toArray] W fun e w' => e = .returned (.bool true) ∧ Below W.heap.size W w') := hid fun W => ma ▸ uMay_any A hA W
  have HIaa : Hid (∀ W, Calls Try.prog 19 #[.agg (stC A).toArray, .agg (stC A).toArray] W fun e w' => e = .returned (.bool true) ∧ Below W.heap.size W w') := hid fun W => ((sIn_self A).trans ma) ▸ uIn_any A A hA hA W
  have HIab : Hid (∀ W, Calls Try.prog 19 #[.agg (stC A).toArray, .agg (stC B).toArray] W fun e w' => e = .returned (.bool false) ∧ Below W.heap.size W w') := hid fun W => iab ▸ uIn_any A B hA hB W
  have HIbc : Hid (∀ W, Calls Try.prog 19 #[.agg (stC B).toArray, .agg (stC C).toArray] W fun e w' => e = .returned (.bool false) ∧ Below W.heap.size W w') := hid fun W => ibc ▸ uIn_any B C hB hC W
  have HIac : Hid (∀ W, Calls Try.prog 19 #[.agg (stC A).toArray, .agg (stC C).toArray] W fun e w' => e = .returned (.bool false) ∧ Below W.heap.size W w') := hid fun W => iac ▸ uIn_any A C hA hC W
  have HMb : Hid (∀ W, Calls Try.prog 11 #[.agg (stC B).toArray] W fun e w' => e = .returned (.bool true) ∧ Below W.heap.size W w') := hid fun W => mb ▸ uMay_any B hB W
  obtain ⟨jm, ja, jb⟩ := sJoin_up ma mb
  have hJ := sJoin_StOk hA hB
  have HJ : Hid (∀ W, Calls Try.prog 21 #[.agg (stC A).toArray, .agg (stC B).toArray] W fun e w' => e = .returned (.agg (stC (sJoin A B)).toArray) ∧ Below W.heap.size W w') := hid fun W => uJoin_any A B hA hB W
  obtain ⟨J, hj⟩ : ∃ J, sJoin A B = J := ⟨_, rfl⟩
  rw [hj] at HJ jm ja jb hJ
  clear hj
  have HMj : Hid (∀ W, Calls Try.prog 11 #[.agg (stC J).toArray] W fun e w' => e = .returned (.bool true) ∧ Below W.heap.size W w') := hid fun W => jm ▸ uMay_any J hJ W
  have HIaj : Hid (∀ W, Calls Try.prog 19 #[.agg (stC A).toArray, .agg (stC J).toArray] W fun e w' => e = .returned (.bool true) ∧ Below W.heap.size W w') := hid fun W => ja ▸ uIn_any A J hA hJ W
  have HIbj : Hid (∀ W, Calls Try.prog 19 #[.agg (stC B).toArray, .agg (stC J).toArray] W fun e w' => e = .returned (.bool true) ∧ Below W.heap.size W w') := hid fun W => jb ▸ uIn_any B J hB hJ W
  clear jm ja jb
  have HW := hid wakes_any
  have ZS : ∀ w, (zeroValue 36).run Try.prog w = .ok (.agg (stC st0).toArray) w := (zero_of_info zs_info).1
  have BS : ∀ w, (Instr.build 36 #[]).run Try.prog w = .ok (.agg (stC st0).toArray) w := bld_s0
  have EQ := y_eq0
  have YN : ∀ (W : World) (S : St), Below w.heap.size w W → w.heap.size ≤ W.heap.size → RwT w.heap.size w ((W.alloc (.cells (stC st0).toArray 36)).setCells W.heap.size 0 (stC S)) W.heap.size 740 (stC S) := fun W S h hg => ynew_st S h hg
  have YT := ythere_st
  generalize st0 = Z0 at *
  replace YN := hid YN
  replace YT := hid YT
  replace EQ := hid EQ
  unfold stV
  obtain ⟨CA, hCA⟩ : ∃ CF, (stC A).toArray = CF := ⟨_, rfl⟩
  obtain ⟨CB, hCB⟩ : ∃ CF, (stC B).toArray = CF := ⟨_, rfl⟩
  obtain ⟨CC, hCC⟩ : ∃ CF, (stC C).toArray = CF := ⟨_, rfl⟩
  obtain ⟨XA, XB, XC⟩ := st_entry3 (w := w) A B C hCA hCB hCC
  rw [hCA, hCB, hCC]
  replace XA := hid XA
  replace XB := hid XB
  replace XC := hid XC
  clear hCA hCB hCC hA hB hC ma mb iab ibc iac hJ
  go_enter Try.func8, Try.ntmps8
  go_wp2_with (first | ((with_reducible refine at_load (d := some 9) 36 ?_); refine wpList_load_g (by rfl) 36 _ rfl w.heap.size 0 rfl (stC A) _ XA.out.i.r0 Try.underlying36 rfl (yhs _) ?_))
  refine (HMa.out _).mono ?_
  rintro e w1 ⟨rfl, z⟩
  have ys := (show w.heap.size ≤ w.heap.size from Nat.le_refl _)
  have XAn := XA.out.next z (by simp; omega)
  have XBn := XB.out.next z (by simp; omega)
  have XCn := XC.out.next z (by simp; omega)
  clear z ys XA XB XC
  have XA := hid XAn
  clear XAn
  have XB := hid XBn
  clear XBn
  have XC := hid XCn
  clear XCn
  go_wp2_with (first | ((with_reducible refine at_load (d := some 11) 36 ?_); refine wpList_load_g (by rfl) 36 _ rfl w.heap.size 0 rfl (stC A) _ XA.out.i.r0 Try.underlying36 rfl (yhs _) ?_) | ((with_reducible refine at_load (d := some 12) 36 ?_); refine wpList_load_g (by rfl) 36 _ rfl w.heap.size 0 rfl (stC A) _ XA.out.i.r0 Try.underlying36 rfl (yhs _) ?_))
  refine (HIaa.out _).mono ?_
  rintro e w2 ⟨rfl, z⟩
  have ys := XA.out.i.bel.size
  have XAn := XA.out.next z XA.out.i.bel.size
  have XBn := XB.out.next z XA.out.i.bel.size
  have XCn := XC.out.next z XA.out.i.bel.size
  clear z ys XA XB XC
  have XA := hid XAn
  clear XAn
  have XB := hid XBn
  clear XBn
  have XC := hid XCn
  clear XCn
  go_wp2_with (first | ((with_reducible refine at_load (d := some 16) 36 ?_); refine wpList_load_g (by rfl) 36 _ rfl w.heap.size 0 rfl (stC A) _ XA.out.i.r0 Try.underlying36 rfl (yhs _) ?_) | ((with_reducible refine at_load (d := some 17) 36 ?_); refine wpList_load_g (by rfl) 36 _ rfl (w.heap.size + 1) 0 rfl (stC B) _ XB.out.i.r0 Try.underlying36 rfl (yhs _) ?_))
  refine (HIab.out _).mono ?_
  rintro e w3 ⟨rfl, z⟩
  have ys := XA.out.i.bel.size
  have XAn := XA.out.next z XA.out.i.bel.size
  have XBn := XB.out.next z XA.out.i.bel.size
  have XCn := XC.out.next z XA.out.i.bel.size
  clear z ys XA XB XC
  have XA := hid XAn
  clear XAn
  have XB := hid XBn
  clear XBn
  have XC := hid XCn
  clear XCn
  go_wp2_with (first | ((with_reducible refine at_load (d := some 30) 36 ?_); refine wpList_load_g (by rfl) 36 _ rfl w.heap.size 0 rfl (stC A) _ XA.out.i.r0 Try.underlying36 rfl (yhs _) ?_) | ((with_reducible refine at_load (d := some 31) 36 ?_); refine wpList_load_g (by rfl) 36 _ rfl (w.heap.size + 1) 0 rfl (stC B) _ XB.out.i.r0 Try.underlying36 rfl (yhs _) ?_))
  refine (HJ.out _).mono ?_
  rintro e w4 ⟨rfl, z⟩
  have ys := XA.out.i.bel.size
  have XAn := XA.out.next z XA.out.i.bel.size
  have XBn := XB.out.next z XA.out.i.bel.size
  have XCn := XC.out.next z XA.out.i.bel.size
  clear z ys XA XB XC
  have XA := hid XAn
  clear XAn
  have XB := hid XBn
  clear XBn
  have XC := hid XCn
  clear XCn
  have BE := XA.out.i.bel
  have XJ := hid (YN.out w4 J BE BE.size)
  have TJ := hid (YT.out w4)
  have XAn := XA.out.made (o := .cells (stC Z0).toArray 36) (c := w4.heap.size) (m := 0) (vs := stC J) BE.size rfl
  clear XA
  have XA := hid XAn
  clear XAn
  have XBn := XB.out.made (o := .cells (stC Z0).toArray 36) (c := w4.heap.size) (m := 0) (vs := stC J) BE.size rfl
  clear XB
  have XB := hid XBn
  clear XBn
  have XCn := XC.out.made (o := .cells (stC Z0).toArray 36) (c := w4.heap.size) (m := 0) (vs := stC J) BE.size rfl
  clear XC
  have XC := hid XCn
  clear XCn
  have lJ := BE.size
  clear BE
  have lz : w.heap.size ≤ w4.heap.size := lJ
  go_wp2_with (first | ((with_reducible refine at_load (d := some 36) 36 ?_); refine wpList_load_g (by rfl) 36 _ rfl (w.heap.size + 1) 0 rfl (stC B) _ XB.out.i.r0 Try.underlying36 rfl (yhs _) ?_) | ((with_reducible refine at_store (x := .tmp 8) (y := .tmp 32) 36 ?_); refine wpList_store_st (.tmp 8) (.tmp 32) rfl rfl w4.heap.size J rfl rfl TJ.out ?_))
  refine (HMb.out _).mono ?_
  rintro e w5 ⟨rfl, z⟩
  have ys := XA.out.i.bel.size
  have XAn := XA.out.next z XA.out.i.bel.size
  have XBn := XB.out.next z XA.out.i.bel.size
  have XCn := XC.out.next z XA.out.i.bel.size
  have XJn := XJ.out.next z XA.out.i.bel.size
  clear z ys XA XB XC XJ
  have XA := hid XAn
  clear XAn
  have XB := hid XBn
  clear XBn
  have XC := hid XCn
  clear XCn
  have XJ := hid XJn
  clear XJn
  go_wp2_with (first | ((with_reducible refine at_load (d := some 52) 36 ?_); refine wpList_load_g (by rfl) 36 _ rfl w4.heap.size 0 rfl (stC J) _ XJ.out.i.r0 Try.underlying36 rfl (yhs _) ?_))
  refine (HMj.out _).mono ?_
  rintro e w6 ⟨rfl, z⟩
  have ys := XA.out.i.bel.size
  have XAn := XA.out.next z XA.out.i.bel.size
  have XBn := XB.out.next z XA.out.i.bel.size
  have XCn := XC.out.next z XA.out.i.bel.size
  have XJn := XJ.out.next z XA.out.i.bel.size
  clear z ys XA XB XC XJ
  have XA := hid XAn
  clear XAn
  have XB := hid XBn
  clear XBn
  have XC := hid XCn
  clear XCn
  have XJ := hid XJn
  clear XJn
  go_wp2_with (first | ((with_reducible refine at_load (d := some 56) 36 ?_); refine wpList_load_g (by rfl) 36 _ rfl w.heap.size 0 rfl (stC A) _ XA.out.i.r0 Try.underlying36 rfl (yhs _) ?_) | ((with_reducible refine at_load (d := some 57) 36 ?_); refine wpList_load_g (by rfl) 36 _ rfl w4.heap.size 0 rfl (stC J) _ XJ.out.i.r0 Try.underlying36 rfl (yhs _) ?_))
  refine (HIaj.out _).mono ?_
  rintro e w7 ⟨rfl, z⟩
  have ys := XA.out.i.bel.size
  have XAn := XA.out.next z XA.out.i.bel.size
  have XBn := XB.out.next z XA.out.i.bel.size
  have XCn := XC.out.next z XA.out.i.bel.size
  have XJn := XJ.out.next z XA.out.i.bel.size
  clear z ys XA XB XC XJ
  have XA := hid XAn
  clear XAn
  have XB := hid XBn
  clear XBn
  have XC := hid XCn
  clear XCn
  have XJ := hid XJn
  clear XJn
  go_wp2_with (first | ((with_reducible refine at_load (d := some 62) 36 ?_); refine wpList_load_g (by rfl) 36 _ rfl (w.heap.size + 1) 0 rfl (stC B) _ XB.out.i.r0 Try.underlying36 rfl (yhs _) ?_) | ((with_reducible refine at_load (d := some 63) 36 ?_); refine wpList_load_g (by rfl) 36 _ rfl w4.heap.size 0 rfl (stC J) _ XJ.out.i.r0 Try.underlying36 rfl (yhs _) ?_))
  refine (HIbj.out _).mono ?_
  rintro e w8 ⟨rfl, z⟩
  have ys := XA.out.i.bel.size
  have XAn := XA.out.next z XA.out.i.bel.size
  have XBn := XB.out.next z XA.out.i.bel.size
  have XCn := XC.out.next z XA.out.i.bel.size
  have XJn := XJ.out.next z XA.out.i.bel.size
  clear z ys XA XB XC XJ
  have XA := hid XAn
  clear XAn
  have XB := hid XBn
  clear XBn
  have XC := hid XCn
  clear XCn
  have XJ := hid XJn
  clear XJn
  go_wp2_with (first | ((with_reducible refine at_load (d := some 67) 36 ?_); refine wpList_load_g (by rfl) 36 _ rfl w.heap.size 0 rfl (stC A) _ XA.out.i.r0 Try.underlying36 rfl (yhs _) ?_) | ((with_reducible refine at_load (d := some 68) 36 ?_); refine wpList_load_g (by rfl) 36 _ rfl (w.heap.size + 1 + 1) 0 rfl (stC C) _ XC.out.i.r0 Try.underlying36 rfl (yhs _) ?_))
  refine (HIac.out _).mono ?_
  rintro e w9 ⟨rfl, z⟩
  have ys := XA.out.i.bel.size
  have XAn := XA.out.next z XA.out.i.bel.size
  have XBn := XB.out.next z XA.out.i.bel.size
  have XCn := XC.out.next z XA.out.i.bel.size
  have XJn := XJ.out.next z XA.out.i.bel.size
  clear z ys XA XB XC XJ
  have XA := hid XAn
  clear XAn
  have XB := hid XBn
  clear XBn
  have XC := hid XCn
  clear XCn
  have XJ := hid XJn
  clear XJn
  go_wp2_with (first | ((with_reducible refine at_load (d := some 81) 36 ?_); refine wpList_load_g (by rfl) 36 _ rfl w.heap.size 0 rfl (stC A) _ XA.out.i.r0 Try.underlying36 rfl (yhs _) ?_) | ((with_reducible refine at_load (d := some 82) 36 ?_); refine wpList_load_g (by rfl) 36 _ rfl (w.heap.size + 1) 0 rfl (stC B) _ XB.out.i.r0 Try.underlying36 rfl (yhs _) ?_))
  refine (HIab.out _).mono ?_
  rintro e w10 ⟨rfl, z⟩
  have ys := XA.out.i.bel.size
  have XAn := XA.out.next z XA.out.i.bel.size
  have XBn := XB.out.next z XA.out.i.bel.size
  have XCn := XC.out.next z XA.out.i.bel.size
  have XJn := XJ.out.next z XA.out.i.bel.size
  clear z ys XA XB XC XJ
  have XA := hid XAn
  clear XAn
  have XB := hid XBn
  clear XBn
  have XC := hid XCn
  clear XCn
  have XJ := hid XJn
  clear XJn
  go_wp2_with fail
  refine (HW.out _).mono ?_
  rintro e w11 ⟨rfl, z⟩
  have ys := XA.out.i.bel.size
  have XAn := XA.out.next z XA.out.i.bel.size
  have XBn := XB.out.next z XA.out.i.bel.size
  have XCn := XC.out.next z XA.out.i.bel.size
  have XJn := XJ.out.next z XA.out.i.bel.size
  clear z ys XA XB XC XJ
  have XA := hid XAn
  clear XAn
  have XB := hid XBn
  clear XBn
  have XC := hid XCn
  clear XCn
  have XJ := hid XJn
  clear XJn
  go_wp2_with fail
  go_ret
  exact ⟨rfl, XA.out.i.bel⟩
set_option maxHeartbeats 16000000 in
theorem ord_001 (A B C : St) (hA : StOk A) (hB : StOk B) (hC : StOk C) (ma : sMay A = true) (mb : sMay B = true) (iab : sIn A B = false) (ibc : sIn B C = false) (iac : sIn A C = true) (w : World) : Calls Try.prog 8 #[stV A, stV B, stV C] w fun e w' => e = .returned (.bool true) ∧ Below w.heap.size w w' := by
  have HMa : Hid (∀ W, Calls Try.prog 11 #[.agg (stC A).toArray] W fun e w' => e = .returned (.bool true) ∧ Below W.heap.size W w') := hid fun W => ma ▸ uMay_any A hA W
  have HIaa : Hid (∀ W, Calls Try.prog 19 #[.agg (stC A).toArray, .agg (stC A).toArray] W fun e w' => e = .returned (.bool true) ∧ Below W.heap.size W w') := hid fun W => ((sIn_self A).trans ma) ▸ uIn_any A A hA hA W
  have HIab : Hid (∀ W, Calls Try.prog 19 #[.agg (stC A).toArray, .agg (stC B).toArray] W fun e w' => e = .returned (.bool false) ∧ Below W.heap.size W w') := hid fun W => iab ▸ uIn_any A B hA hB W
  have HIbc : Hid (∀ W, Calls Try.prog 19 #[.agg (stC B).toArray, .agg (stC C).toArray] W fun e w' => e = .returned (.bool false) ∧ Below W.heap.size W w') := hid fun W => ibc ▸ uIn_any B C hB hC W
  have HIac : Hid (∀ W, Calls Try.prog 19 #[.agg (stC A).toArray, .agg (stC C).toArray] W fun e w' => e = .returned (.bool true) ∧ Below W.heap.size W w') := hid fun W => iac ▸ uIn_any A C hA hC W
  have HMb : Hid (∀ W, Calls Try.prog 11 #[.agg (stC B).toArray] W fun e w' => e = .returned (.bool true) ∧ Below W.heap.size W w') := hid fun W => mb ▸ uMay_any B hB W
  obtain ⟨jm, ja, jb⟩ := sJoin_up ma mb
  have hJ := sJoin_StOk hA hB
  have HJ : Hid (∀ W, Calls Try.prog 21 #[.agg (stC A).toArray, .agg (stC B).toArray] W fun e w' => e = .returned (.agg (stC (sJoin A B)).toArray) ∧ Below W.heap.size W w') := hid fun W => uJoin_any A B hA hB W
  obtain ⟨J, hj⟩ : ∃ J, sJoin A B = J := ⟨_, rfl⟩
  rw [hj] at HJ jm ja jb hJ
  clear hj
  have HMj : Hid (∀ W, Calls Try.prog 11 #[.agg (stC J).toArray] W fun e w' => e = .returned (.bool true) ∧ Below W.heap.size W w') := hid fun W => jm ▸ uMay_any J hJ W
  have HIaj : Hid (∀ W, Calls Try.prog 19 #[.agg (stC A).toArray, .agg (stC J).toArray] W fun e w' => e = .returned (.bool true) ∧ Below W.heap.size W w') := hid fun W => ja ▸ uIn_any A J hA hJ W
  have HIbj : Hid (∀ W, Calls Try.prog 19 #[.agg (stC B).toArray, .agg (stC J).toArray] W fun e w' => e = .returned (.bool true) ∧ Below W.heap.size W w') := hid fun W => jb ▸ uIn_any B J hB hJ W
  clear jm ja jb
  have HW := hid wakes_any
  have ZS : ∀ w, (zeroValue 36).run Try.prog w = .ok (.agg (stC st0).toArray) w := (zero_of_info zs_info).1
  have BS : ∀ w, (Instr.build 36 #[]).run Try.prog w = .ok (.agg (stC st0).toArray) w := bld_s0
  have EQ := y_eq0
  have YN : ∀ (W : World) (S : St), Below w.heap.size w W → w.heap.size ≤ W.heap.size → RwT w.heap.size w ((W.alloc (.cells (stC st0).toArray 36)).setCells W.heap.size 0 (stC S)) W.heap.size 740 (stC S) := fun W S h hg => ynew_st S h hg
  have YT := ythere_st
  generalize st0 = Z0 at *
  replace YN := hid YN
  replace YT := hid YT
  replace EQ := hid EQ
  unfold stV
  obtain ⟨CA, hCA⟩ : ∃ CF, (stC A).toArray = CF := ⟨_, rfl⟩
  obtain ⟨CB, hCB⟩ : ∃ CF, (stC B).toArray = CF := ⟨_, rfl⟩
  obtain ⟨CC, hCC⟩ : ∃ CF, (stC C).toArray = CF := ⟨_, rfl⟩
  obtain ⟨XA, XB, XC⟩ := st_entry3 (w := w) A B C hCA hCB hCC
  rw [hCA, hCB, hCC]
  replace XA := hid XA
  replace XB := hid XB
  replace XC := hid XC
  clear hCA hCB hCC hA hB hC ma mb iab ibc iac hJ
  go_enter Try.func8, Try.ntmps8
  go_wp2_with (first | ((with_reducible refine at_load (d := some 9) 36 ?_); refine wpList_load_g (by rfl) 36 _ rfl w.heap.size 0 rfl (stC A) _ XA.out.i.r0 Try.underlying36 rfl (yhs _) ?_))
  refine (HMa.out _).mono ?_
  rintro e w1 ⟨rfl, z⟩
  have ys := (show w.heap.size ≤ w.heap.size from Nat.le_refl _)
  have XAn := XA.out.next z (by simp; omega)
  have XBn := XB.out.next z (by simp; omega)
  have XCn := XC.out.next z (by simp; omega)
  clear z ys XA XB XC
  have XA := hid XAn
  clear XAn
  have XB := hid XBn
  clear XBn
  have XC := hid XCn
  clear XCn
  go_wp2_with (first | ((with_reducible refine at_load (d := some 11) 36 ?_); refine wpList_load_g (by rfl) 36 _ rfl w.heap.size 0 rfl (stC A) _ XA.out.i.r0 Try.underlying36 rfl (yhs _) ?_) | ((with_reducible refine at_load (d := some 12) 36 ?_); refine wpList_load_g (by rfl) 36 _ rfl w.heap.size 0 rfl (stC A) _ XA.out.i.r0 Try.underlying36 rfl (yhs _) ?_))
  refine (HIaa.out _).mono ?_
  rintro e w2 ⟨rfl, z⟩
  have ys := XA.out.i.bel.size
  have XAn := XA.out.next z XA.out.i.bel.size
  have XBn := XB.out.next z XA.out.i.bel.size
  have XCn := XC.out.next z XA.out.i.bel.size
  clear z ys XA XB XC
  have XA := hid XAn
  clear XAn
  have XB := hid XBn
  clear XBn
  have XC := hid XCn
  clear XCn
  go_wp2_with (first | ((with_reducible refine at_load (d := some 16) 36 ?_); refine wpList_load_g (by rfl) 36 _ rfl w.heap.size 0 rfl (stC A) _ XA.out.i.r0 Try.underlying36 rfl (yhs _) ?_) | ((with_reducible refine at_load (d := some 17) 36 ?_); refine wpList_load_g (by rfl) 36 _ rfl (w.heap.size + 1) 0 rfl (stC B) _ XB.out.i.r0 Try.underlying36 rfl (yhs _) ?_))
  refine (HIab.out _).mono ?_
  rintro e w3 ⟨rfl, z⟩
  have ys := XA.out.i.bel.size
  have XAn := XA.out.next z XA.out.i.bel.size
  have XBn := XB.out.next z XA.out.i.bel.size
  have XCn := XC.out.next z XA.out.i.bel.size
  clear z ys XA XB XC
  have XA := hid XAn
  clear XAn
  have XB := hid XBn
  clear XBn
  have XC := hid XCn
  clear XCn
  go_wp2_with (first | ((with_reducible refine at_load (d := some 30) 36 ?_); refine wpList_load_g (by rfl) 36 _ rfl w.heap.size 0 rfl (stC A) _ XA.out.i.r0 Try.underlying36 rfl (yhs _) ?_) | ((with_reducible refine at_load (d := some 31) 36 ?_); refine wpList_load_g (by rfl) 36 _ rfl (w.heap.size + 1) 0 rfl (stC B) _ XB.out.i.r0 Try.underlying36 rfl (yhs _) ?_))
  refine (HJ.out _).mono ?_
  rintro e w4 ⟨rfl, z⟩
  have ys := XA.out.i.bel.size
  have XAn := XA.out.next z XA.out.i.bel.size
  have XBn := XB.out.next z XA.out.i.bel.size
  have XCn := XC.out.next z XA.out.i.bel.size
  clear z ys XA XB XC
  have XA := hid XAn
  clear XAn
  have XB := hid XBn
  clear XBn
  have XC := hid XCn
  clear XCn
  have BE := XA.out.i.bel
  have XJ := hid (YN.out w4 J BE BE.size)
  have TJ := hid (YT.out w4)
  have XAn := XA.out.made (o := .cells (stC Z0).toArray 36) (c := w4.heap.size) (m := 0) (vs := stC J) BE.size rfl
  clear XA
  have XA := hid XAn
  clear XAn
  have XBn := XB.out.made (o := .cells (stC Z0).toArray 36) (c := w4.heap.size) (m := 0) (vs := stC J) BE.size rfl
  clear XB
  have XB := hid XBn
  clear XBn
  have XCn := XC.out.made (o := .cells (stC Z0).toArray 36) (c := w4.heap.size) (m := 0) (vs := stC J) BE.size rfl
  clear XC
  have XC := hid XCn
  clear XCn
  have lJ := BE.size
  clear BE
  have lz : w.heap.size ≤ w4.heap.size := lJ
  go_wp2_with (first | ((with_reducible refine at_load (d := some 36) 36 ?_); refine wpList_load_g (by rfl) 36 _ rfl (w.heap.size + 1) 0 rfl (stC B) _ XB.out.i.r0 Try.underlying36 rfl (yhs _) ?_) | ((with_reducible refine at_store (x := .tmp 8) (y := .tmp 32) 36 ?_); refine wpList_store_st (.tmp 8) (.tmp 32) rfl rfl w4.heap.size J rfl rfl TJ.out ?_))
  refine (HMb.out _).mono ?_
  rintro e w5 ⟨rfl, z⟩
  have ys := XA.out.i.bel.size
  have XAn := XA.out.next z XA.out.i.bel.size
  have XBn := XB.out.next z XA.out.i.bel.size
  have XCn := XC.out.next z XA.out.i.bel.size
  have XJn := XJ.out.next z XA.out.i.bel.size
  clear z ys XA XB XC XJ
  have XA := hid XAn
  clear XAn
  have XB := hid XBn
  clear XBn
  have XC := hid XCn
  clear XCn
  have XJ := hid XJn
  clear XJn
  go_wp2_with (first | ((with_reducible refine at_load (d := some 52) 36 ?_); refine wpList_load_g (by rfl) 36 _ rfl w4.heap.size 0 rfl (stC J) _ XJ.out.i.r0 Try.underlying36 rfl (yhs _) ?_))
  refine (HMj.out _).mono ?_
  rintro e w6 ⟨rfl, z⟩
  have ys := XA.out.i.bel.size
  have XAn := XA.out.next z XA.out.i.bel.size
  have XBn := XB.out.next z XA.out.i.bel.size
  have XCn := XC.out.next z XA.out.i.bel.size
  have XJn := XJ.out.next z XA.out.i.bel.size
  clear z ys XA XB XC XJ
  have XA := hid XAn
  clear XAn
  have XB := hid XBn
  clear XBn
  have XC := hid XCn
  clear XCn
  have XJ := hid XJn
  clear XJn
  go_wp2_with (first | ((with_reducible refine at_load (d := some 56) 36 ?_); refine wpList_load_g (by rfl) 36 _ rfl w.heap.size 0 rfl (stC A) _ XA.out.i.r0 Try.underlying36 rfl (yhs _) ?_) | ((with_reducible refine at_load (d := some 57) 36 ?_); refine wpList_load_g (by rfl) 36 _ rfl w4.heap.size 0 rfl (stC J) _ XJ.out.i.r0 Try.underlying36 rfl (yhs _) ?_))
  refine (HIaj.out _).mono ?_
  rintro e w7 ⟨rfl, z⟩
  have ys := XA.out.i.bel.size
  have XAn := XA.out.next z XA.out.i.bel.size
  have XBn := XB.out.next z XA.out.i.bel.size
  have XCn := XC.out.next z XA.out.i.bel.size
  have XJn := XJ.out.next z XA.out.i.bel.size
  clear z ys XA XB XC XJ
  have XA := hid XAn
  clear XAn
  have XB := hid XBn
  clear XBn
  have XC := hid XCn
  clear XCn
  have XJ := hid XJn
  clear XJn
  go_wp2_with (first | ((with_reducible refine at_load (d := some 62) 36 ?_); refine wpList_load_g (by rfl) 36 _ rfl (w.heap.size + 1) 0 rfl (stC B) _ XB.out.i.r0 Try.underlying36 rfl (yhs _) ?_) | ((with_reducible refine at_load (d := some 63) 36 ?_); refine wpList_load_g (by rfl) 36 _ rfl w4.heap.size 0 rfl (stC J) _ XJ.out.i.r0 Try.underlying36 rfl (yhs _) ?_))
  refine (HIbj.out _).mono ?_
  rintro e w8 ⟨rfl, z⟩
  have ys := XA.out.i.bel.size
  have XAn := XA.out.next z XA.out.i.bel.size
  have XBn := XB.out.next z XA.out.i.bel.size
  have XCn := XC.out.next z XA.out.i.bel.size
  have XJn := XJ.out.next z XA.out.i.bel.size
  clear z ys XA XB XC XJ
  have XA := hid XAn
  clear XAn
  have XB := hid XBn
  clear XBn
  have XC := hid XCn
  clear XCn
  have XJ := hid XJn
  clear XJn
  go_wp2_with (first | ((with_reducible refine at_load (d := some 67) 36 ?_); refine wpList_load_g (by rfl) 36 _ rfl w.heap.size 0 rfl (stC A) _ XA.out.i.r0 Try.underlying36 rfl (yhs _) ?_) | ((with_reducible refine at_load (d := some 68) 36 ?_); refine wpList_load_g (by rfl) 36 _ rfl (w.heap.size + 1 + 1) 0 rfl (stC C) _ XC.out.i.r0 Try.underlying36 rfl (yhs _) ?_))
  refine (HIac.out _).mono ?_
  rintro e w9 ⟨rfl, z⟩
  have ys := XA.out.i.bel.size
  have XAn := XA.out.next z XA.out.i.bel.size
  have XBn := XB.out.next z XA.out.i.bel.size
  have XCn := XC.out.next z XA.out.i.bel.size
  have XJn := XJ.out.next z XA.out.i.bel.size
  clear z ys XA XB XC XJ
  have XA := hid XAn
  clear XAn
  have XB := hid XBn
  clear XBn
  have XC := hid XCn
  clear XCn
  have XJ := hid XJn
  clear XJn
  go_wp2_with (first | ((with_reducible refine at_load (d := some 71) 36 ?_); refine wpList_load_g (by rfl) 36 _ rfl (w.heap.size + 1) 0 rfl (stC B) _ XB.out.i.r0 Try.underlying36 rfl (yhs _) ?_) | ((with_reducible refine at_load (d := some 72) 36 ?_); refine wpList_load_g (by rfl) 36 _ rfl (w.heap.size + 1 + 1) 0 rfl (stC C) _ XC.out.i.r0 Try.underlying36 rfl (yhs _) ?_))
  refine (HIbc.out _).mono ?_
  rintro e w10 ⟨rfl, z⟩
  have ys := XA.out.i.bel.size
  have XAn := XA.out.next z XA.out.i.bel.size
  have XBn := XB.out.next z XA.out.i.bel.size
  have XCn := XC.out.next z XA.out.i.bel.size
  have XJn := XJ.out.next z XA.out.i.bel.size
  clear z ys XA XB XC XJ
  have XA := hid XAn
  clear XAn
  have XB := hid XBn
  clear XBn
  have XC := hid XCn
  clear XCn
  have XJ := hid XJn
  clear XJn
  go_wp2_with (first | ((with_reducible refine at_load (d := some 81) 36 ?_); refine wpList_load_g (by rfl) 36 _ rfl w.heap.size 0 rfl (stC A) _ XA.out.i.r0 Try.underlying36 rfl (yhs _) ?_) | ((with_reducible refine at_load (d := some 82) 36 ?_); refine wpList_load_g (by rfl) 36 _ rfl (w.heap.size + 1) 0 rfl (stC B) _ XB.out.i.r0 Try.underlying36 rfl (yhs _) ?_))
  refine (HIab.out _).mono ?_
  rintro e w11 ⟨rfl, z⟩
  have ys := XA.out.i.bel.size
  have XAn := XA.out.next z XA.out.i.bel.size
  have XBn := XB.out.next z XA.out.i.bel.size
  have XCn := XC.out.next z XA.out.i.bel.size
  have XJn := XJ.out.next z XA.out.i.bel.size
  clear z ys XA XB XC XJ
  have XA := hid XAn
  clear XAn
  have XB := hid XBn
  clear XBn
  have XC := hid XCn
  clear XCn
  have XJ := hid XJn
  clear XJn
  go_wp2_with fail
  refine (HW.out _).mono ?_
  rintro e w12 ⟨rfl, z⟩
  have ys := XA.out.i.bel.size
  have XAn := XA.out.next z XA.out.i.bel.size
  have XBn := XB.out.next z XA.out.i.bel.size
  have XCn := XC.out.next z XA.out.i.bel.size
  have XJn := XJ.out.next z XA.out.i.bel.size
  clear z ys XA XB XC XJ
  have XA := hid XAn
  clear XAn
  have XB := hid XBn
  clear XBn
  have XC := hid XCn
  clear XCn
  have XJ := hid XJn
  clear XJn
  go_wp2_with fail
  go_ret
  exact ⟨rfl, XA.out.i.bel⟩
set_option maxHeartbeats 16000000 in
theorem ord_010 (A B C : St) (hA : StOk A) (hB : StOk B) (hC : StOk C) (ma : sMay A = true) (mb : sMay B = true) (iab : sIn A B = false) (ibc : sIn B C = true) (iac : sIn A C = false) (w : World) : Calls Try.prog 8 #[stV A, stV B, stV C] w fun e w' => e = .returned (.bool true) ∧ Below w.heap.size w w' := by
  have HMa : Hid (∀ W, Calls Try.prog 11 #[.agg (stC A).toArray] W fun e w' => e = .returned (.bool true) ∧ Below W.heap.size W w') := hid fun W => ma ▸ uMay_any A hA W
  have HIaa : Hid (∀ W, Calls Try.prog 19 #[.agg (stC A).toArray, .agg (stC A).toArray] W fun e w' => e = .returned (.bool true) ∧ Below W.heap.size W w') := hid fun W => ((sIn_self A).trans ma) ▸ uIn_any A A hA hA W
  have HIab : Hid (∀ W, Calls Try.prog 19 #[.agg (stC A).toArray, .agg (stC B).toArray] W fun e w' => e = .returned (.bool false) ∧ Below W.heap.size W w') := hid fun W => iab ▸ uIn_any A B hA hB W
  have HIbc : Hid (∀ W, Calls Try.prog 19 #[.agg (stC B).toArray, .agg (stC C).toArray] W fun e w' => e = .returned (.bool true) ∧ Below W.heap.size W w') := hid fun W => ibc ▸ uIn_any B C hB hC W
  have HIac : Hid (∀ W, Calls Try.prog 19 #[.agg (stC A).toArray, .agg (stC C).toArray] W fun e w' => e = .returned (.bool false) ∧ Below W.heap.size W w') := hid fun W => iac ▸ uIn_any A C hA hC W
  have HMb : Hid (∀ W, Calls Try.prog 11 #[.agg (stC B).toArray] W fun e w' => e = .returned (.bool true) ∧ Below W.heap.size W w') := hid fun W => mb ▸ uMay_any B hB W
  obtain ⟨jm, ja, jb⟩ := sJoin_up ma mb
  have hJ := sJoin_StOk hA hB
  have HJ : Hid (∀ W, Calls Try.prog 21 #[.agg (stC A).toArray, .agg (stC B).toArray] W fun e w' => e = .returned (.agg (stC (sJoin A B)).toArray) ∧ Below W.heap.size W w') := hid fun W => uJoin_any A B hA hB W
  obtain ⟨J, hj⟩ : ∃ J, sJoin A B = J := ⟨_, rfl⟩
  rw [hj] at HJ jm ja jb hJ
  clear hj
  have HMj : Hid (∀ W, Calls Try.prog 11 #[.agg (stC J).toArray] W fun e w' => e = .returned (.bool true) ∧ Below W.heap.size W w') := hid fun W => jm ▸ uMay_any J hJ W
  have HIaj : Hid (∀ W, Calls Try.prog 19 #[.agg (stC A).toArray, .agg (stC J).toArray] W fun e w' => e = .returned (.bool true) ∧ Below W.heap.size W w') := hid fun W => ja ▸ uIn_any A J hA hJ W
  have HIbj : Hid (∀ W, Calls Try.prog 19 #[.agg (stC B).toArray, .agg (stC J).toArray] W fun e w' => e = .returned (.bool true) ∧ Below W.heap.size W w') := hid fun W => jb ▸ uIn_any B J hB hJ W
  clear jm ja jb
  have HW := hid wakes_any
  have ZS : ∀ w, (zeroValue 36).run Try.prog w = .ok (.agg (stC st0).toArray) w := (zero_of_info zs_info).1
  have BS : ∀ w, (Instr.build 36 #[]).run Try.prog w = .ok (.agg (stC st0).toArray) w := bld_s0
  have EQ := y_eq0
  have YN : ∀ (W : World) (S : St), Below w.heap.size w W → w.heap.size ≤ W.heap.size → RwT w.heap.size w ((W.alloc (.cells (stC st0).toArray 36)).setCells W.heap.size 0 (stC S)) W.heap.size 740 (stC S) := fun W S h hg => ynew_st S h hg
  have YT := ythere_st
  generalize st0 = Z0 at *
  replace YN := hid YN
  replace YT := hid YT
  replace EQ := hid EQ
  unfold stV
  obtain ⟨CA, hCA⟩ : ∃ CF, (stC A).toArray = CF := ⟨_, rfl⟩
  obtain ⟨CB, hCB⟩ : ∃ CF, (stC B).toArray = CF := ⟨_, rfl⟩
  obtain ⟨CC, hCC⟩ : ∃ CF, (stC C).toArray = CF := ⟨_, rfl⟩
  obtain ⟨XA, XB, XC⟩ := st_entry3 (w := w) A B C hCA hCB hCC
  rw [hCA, hCB, hCC]
  replace XA := hid XA
  replace XB := hid XB
  replace XC := hid XC
  clear hCA hCB hCC hA hB hC ma mb iab ibc iac hJ
  go_enter Try.func8, Try.ntmps8
  go_wp2_with (first | ((with_reducible refine at_load (d := some 9) 36 ?_); refine wpList_load_g (by rfl) 36 _ rfl w.heap.size 0 rfl (stC A) _ XA.out.i.r0 Try.underlying36 rfl (yhs _) ?_))
  refine (HMa.out _).mono ?_
  rintro e w1 ⟨rfl, z⟩
  have ys := (show w.heap.size ≤ w.heap.size from Nat.le_refl _)
  have XAn := XA.out.next z (by simp; omega)
  have XBn := XB.out.next z (by simp; omega)
  have XCn := XC.out.next z (by simp; omega)
  clear z ys XA XB XC
  have XA := hid XAn
  clear XAn
  have XB := hid XBn
  clear XBn
  have XC := hid XCn
  clear XCn
  go_wp2_with (first | ((with_reducible refine at_load (d := some 11) 36 ?_); refine wpList_load_g (by rfl) 36 _ rfl w.heap.size 0 rfl (stC A) _ XA.out.i.r0 Try.underlying36 rfl (yhs _) ?_) | ((with_reducible refine at_load (d := some 12) 36 ?_); refine wpList_load_g (by rfl) 36 _ rfl w.heap.size 0 rfl (stC A) _ XA.out.i.r0 Try.underlying36 rfl (yhs _) ?_))
  refine (HIaa.out _).mono ?_
  rintro e w2 ⟨rfl, z⟩
  have ys := XA.out.i.bel.size
  have XAn := XA.out.next z XA.out.i.bel.size
  have XBn := XB.out.next z XA.out.i.bel.size
  have XCn := XC.out.next z XA.out.i.bel.size
  clear z ys XA XB XC
  have XA := hid XAn
  clear XAn
  have XB := hid XBn
  clear XBn
  have XC := hid XCn
  clear XCn
  go_wp2_with (first | ((with_reducible refine at_load (d := some 16) 36 ?_); refine wpList_load_g (by rfl) 36 _ rfl w.heap.size 0 rfl (stC A) _ XA.out.i.r0 Try.underlying36 rfl (yhs _) ?_) | ((with_reducible refine at_load (d := some 17) 36 ?_); refine wpList_load_g (by rfl) 36 _ rfl (w.heap.size + 1) 0 rfl (stC B) _ XB.out.i.r0 Try.underlying36 rfl (yhs _) ?_))
  refine (HIab.out _).mono ?_
  rintro e w3 ⟨rfl, z⟩
  have ys := XA.out.i.bel.size
  have XAn := XA.out.next z XA.out.i.bel.size
  have XBn := XB.out.next z XA.out.i.bel.size
  have XCn := XC.out.next z XA.out.i.bel.size
  clear z ys XA XB XC
  have XA := hid XAn
  clear XAn
  have XB := hid XBn
  clear XBn
  have XC := hid XCn
  clear XCn
  go_wp2_with (first | ((with_reducible refine at_load (d := some 30) 36 ?_); refine wpList_load_g (by rfl) 36 _ rfl w.heap.size 0 rfl (stC A) _ XA.out.i.r0 Try.underlying36 rfl (yhs _) ?_) | ((with_reducible refine at_load (d := some 31) 36 ?_); refine wpList_load_g (by rfl) 36 _ rfl (w.heap.size + 1) 0 rfl (stC B) _ XB.out.i.r0 Try.underlying36 rfl (yhs _) ?_))
  refine (HJ.out _).mono ?_
  rintro e w4 ⟨rfl, z⟩
  have ys := XA.out.i.bel.size
  have XAn := XA.out.next z XA.out.i.bel.size
  have XBn := XB.out.next z XA.out.i.bel.size
  have XCn := XC.out.next z XA.out.i.bel.size
  clear z ys XA XB XC
  have XA := hid XAn
  clear XAn
  have XB := hid XBn
  clear XBn
  have XC := hid XCn
  clear XCn
  have BE := XA.out.i.bel
  have XJ := hid (YN.out w4 J BE BE.size)
  have TJ := hid (YT.out w4)
  have XAn := XA.out.made (o := .cells (stC Z0).toArray 36) (c := w4.heap.size) (m := 0) (vs := stC J) BE.size rfl
  clear XA
  have XA := hid XAn
  clear XAn
  have XBn := XB.out.made (o := .cells (stC Z0).toArray 36) (c := w4.heap.size) (m := 0) (vs := stC J) BE.size rfl
  clear XB
  have XB := hid XBn
  clear XBn
  have XCn := XC.out.made (o := .cells (stC Z0).toArray 36) (c := w4.heap.size) (m := 0) (vs := stC J) BE.size rfl
  clear XC
  have XC := hid XCn
  clear XCn
  have lJ := BE.size
  clear BE
  have lz : w.heap.size ≤ w4.heap.size := lJ
  go_wp2_with (first | ((with_reducible refine at_load (d := some 36) 36 ?_); refine wpList_load_g (by rfl) 36 _ rfl (w.heap.size + 1) 0 rfl (stC B) _ XB.out.i.r0 Try.underlying36 rfl (yhs _) ?_) | ((with_reducible refine at_store (x := .tmp 8) (y := .tmp 32) 36 ?_); refine wpList_store_st (.tmp 8) (.tmp 32) rfl rfl w4.heap.size J rfl rfl TJ.out ?_))
  refine (HMb.out _).mono ?_
  rintro e w5 ⟨rfl, z⟩
  have ys := XA.out.i.bel.size
  have XAn := XA.out.next z XA.out.i.bel.size
  have XBn := XB.out.next z XA.out.i.bel.size
  have XCn := XC.out.next z XA.out.i.bel.size
  have XJn := XJ.out.next z XA.out.i.bel.size
  clear z ys XA XB XC XJ
  have XA := hid XAn
  clear XAn
  have XB := hid XBn
  clear XBn
  have XC := hid XCn
  clear XCn
  have XJ := hid XJn
  clear XJn
  go_wp2_with (first | ((with_reducible refine at_load (d := some 52) 36 ?_); refine wpList_load_g (by rfl) 36 _ rfl w4.heap.size 0 rfl (stC J) _ XJ.out.i.r0 Try.underlying36 rfl (yhs _) ?_))
  refine (HMj.out _).mono ?_
  rintro e w6 ⟨rfl, z⟩
  have ys := XA.out.i.bel.size
  have XAn := XA.out.next z XA.out.i.bel.size
  have XBn := XB.out.next z XA.out.i.bel.size
  have XCn := XC.out.next z XA.out.i.bel.size
  have XJn := XJ.out.next z XA.out.i.bel.size
  clear z ys XA XB XC XJ
  have XA := hid XAn
  clear XAn
  have XB := hid XBn
  clear XBn
  have XC := hid XCn
  clear XCn
  have XJ := hid XJn
  clear XJn
  go_wp2_with (first | ((with_reducible refine at_load (d := some 56) 36 ?_); refine wpList_load_g (by rfl) 36 _ rfl w.heap.size 0 rfl (stC A) _ XA.out.i.r0 Try.underlying36 rfl (yhs _) ?_) | ((with_reducible refine at_load (d := some 57) 36 ?_); refine wpList_load_g (by rfl) 36 _ rfl w4.heap.size 0 rfl (stC J) _ XJ.out.i.r0 Try.underlying36 rfl (yhs _) ?_))
  refine (HIaj.out _).mono ?_
  rintro e w7 ⟨rfl, z⟩
  have ys := XA.out.i.bel.size
  have XAn := XA.out.next z XA.out.i.bel.size
  have XBn := XB.out.next z XA.out.i.bel.size
  have XCn := XC.out.next z XA.out.i.bel.size
  have XJn := XJ.out.next z XA.out.i.bel.size
  clear z ys XA XB XC XJ
  have XA := hid XAn
  clear XAn
  have XB := hid XBn
  clear XBn
  have XC := hid XCn
  clear XCn
  have XJ := hid XJn
  clear XJn
  go_wp2_with (first | ((with_reducible refine at_load (d := some 62) 36 ?_); refine wpList_load_g (by rfl) 36 _ rfl (w.heap.size + 1) 0 rfl (stC B) _ XB.out.i.r0 Try.underlying36 rfl (yhs _) ?_) | ((with_reducible refine at_load (d := some 63) 36 ?_); refine wpList_load_g (by rfl) 36 _ rfl w4.heap.size 0 rfl (stC J) _ XJ.out.i.r0 Try.underlying36 rfl (yhs _) ?_))
  refine (HIbj.out _).mono ?_
  rintro e w8 ⟨rfl, z⟩
  have ys := XA.out.i.bel.size
  have XAn := XA.out.next z XA.out.i.bel.size
  have XBn := XB.out.next z XA.out.i.bel.size
  have XCn := XC.out.next z XA.out.i.bel.size
  have XJn := XJ.out.next z XA.out.i.bel.size
  clear z ys XA XB XC XJ
  have XA := hid XAn
  clear XAn
  have XB := hid XBn
  clear XBn
  have XC := hid XCn
  clear XCn
  have XJ := hid XJn
  clear XJn
  go_wp2_with (first | ((with_reducible refine at_load (d := some 67) 36 ?_); refine wpList_load_g (by rfl) 36 _ rfl w.heap.size 0 rfl (stC A) _ XA.out.i.r0 Try.underlying36 rfl (yhs _) ?_) | ((with_reducible refine at_load (d := some 68) 36 ?_); refine wpList_load_g (by rfl) 36 _ rfl (w.heap.size + 1 + 1) 0 rfl (stC C) _ XC.out.i.r0 Try.underlying36 rfl (yhs _) ?_))
  refine (HIac.out _).mono ?_
  rintro e w9 ⟨rfl, z⟩
  have ys := XA.out.i.bel.size
  have XAn := XA.out.next z XA.out.i.bel.size
  have XBn := XB.out.next z XA.out.i.bel.size
  have XCn := XC.out.next z XA.out.i.bel.size
  have XJn := XJ.out.next z XA.out.i.bel.size
  clear z ys XA XB XC XJ
  have XA := hid XAn
  clear XAn
  have XB := hid XBn
  clear XBn
  have XC := hid XCn
  clear XCn
  have XJ := hid XJn
  clear XJn
  go_wp2_with (first | ((with_reducible refine at_load (d := some 81) 36 ?_); refine wpList_load_g (by rfl) 36 _ rfl w.heap.size 0 rfl (stC A) _ XA.out.i.r0 Try.underlying36 rfl (yhs _) ?_) | ((with_reducible refine at_load (d := some 82) 36 ?_); refine wpList_load_g (by rfl) 36 _ rfl (w.heap.size + 1) 0 rfl (stC B) _ XB.out.i.r0 Try.underlying36 rfl (yhs _) ?_))
  refine (HIab.out _).mono ?_
  rintro e w10 ⟨rfl, z⟩
  have ys := XA.out.i.bel.size
  have XAn := XA.out.next z XA.out.i.bel.size
  have XBn := XB.out.next z XA.out.i.bel.size
  have XCn := XC.out.next z XA.out.i.bel.size
  have XJn := XJ.out.next z XA.out.i.bel.size
  clear z ys XA XB XC XJ
  have XA := hid XAn
  clear XAn
  have XB := hid XBn
  clear XBn
  have XC := hid XCn
  clear XCn
  have XJ := hid XJn
  clear XJn
  go_wp2_with fail
  refine (HW.out _).mono ?_
  rintro e w11 ⟨rfl, z⟩
  have ys := XA.out.i.bel.size
  have XAn := XA.out.next z XA.out.i.bel.size
  have XBn := XB.out.next z XA.out.i.bel.size
  have XCn := XC.out.next z XA.out.i.bel.size
  have XJn := XJ.out.next z XA.out.i.bel.size
  clear z ys XA XB XC XJ
  have XA := hid XAn
  clear XAn
  have XB := hid XBn
  clear XBn
  have XC := hid XCn
  clear XCn
  have XJ := hid XJn
  clear XJn
  go_wp2_with fail
  go_ret
  exact ⟨rfl, XA.out.i.bel⟩
set_option maxHeartbeats 16000000 in
theorem ord_011 (A B C : St) (hA : StOk A) (hB : StOk B) (hC : StOk C) (ma : sMay A = true) (mb : sMay B = true) (iab : sIn A B = false) (ibc : sIn B C = true) (iac : sIn A C = true) (w : World) : Calls Try.prog 8 #[stV A, stV B, stV C] w fun e w' => e = .returned (.bool true) ∧ Below w.heap.size w w' := by
  have HMa : Hid (∀ W, Calls Try.prog 11 #[.agg (stC A).toArray] W fun e w' => e = .returned (.bool true) ∧ Below W.heap.size W w') := hid fun W => ma ▸ uMay_any A hA W
  have HIaa : Hid (∀ W, Calls Try.prog 19 #[.agg (stC A).toArray, .agg (stC A).toArray] W fun e w' => e = .returned (.bool true) ∧ Below W.heap.size W w') := hid fun W => ((sIn_self A).trans ma) ▸ uIn_any A A hA hA W
  have HIab : Hid (∀ W, Calls Try.prog 19 #[.agg (stC A).toArray, .agg (stC B).toArray] W fun e w' => e = .returned (.bool false) ∧ Below W.heap.size W w') := hid fun W => iab ▸ uIn_any A B hA hB W
  have HIbc : Hid (∀ W, Calls Try.prog 19 #[.agg (stC B).toArray, .agg (stC C).toArray] W fun e w' => e = .returned (.bool true) ∧ Below W.heap.size W w') := hid fun W => ibc ▸ uIn_any B C hB hC W
  have HIac : Hid (∀ W, Calls Try.prog 19 #[.agg (stC A).toArray, .agg (stC C).toArray] W fun e w' => e = .returned (.bool true) ∧ Below W.heap.size W w') := hid fun W => iac ▸ uIn_any A C hA hC W
  have HMb : Hid (∀ W, Calls Try.prog 11 #[.agg (stC B).toArray] W fun e w' => e = .returned (.bool true) ∧ Below W.heap.size W w') := hid fun W => mb ▸ uMay_any B hB W
  obtain ⟨jm, ja, jb⟩ := sJoin_up ma mb
  have hJ := sJoin_StOk hA hB
  have jc := sJoin_least iac ibc
  have HJ : Hid (∀ W, Calls Try.prog 21 #[.agg (stC A).toArray, .agg (stC B).toArray] W fun e w' => e = .returned (.agg (stC (sJoin A B)).toArray) ∧ Below W.heap.size W w') := hid fun W => uJoin_any A B hA hB W
  obtain ⟨J, hj⟩ : ∃ J, sJoin A B = J := ⟨_, rfl⟩
  rw [hj] at HJ jm ja jb hJ jc
  clear hj
  have HMj : Hid (∀ W, Calls Try.prog 11 #[.agg (stC J).toArray] W fun e w' => e = .returned (.bool true) ∧ Below W.heap.size W w') := hid fun W => jm ▸ uMay_any J hJ W
  have HIaj : Hid (∀ W, Calls Try.prog 19 #[.agg (stC A).toArray, .agg (stC J).toArray] W fun e w' => e = .returned (.bool true) ∧ Below W.heap.size W w') := hid fun W => ja ▸ uIn_any A J hA hJ W
  have HIbj : Hid (∀ W, Calls Try.prog 19 #[.agg (stC B).toArray, .agg (stC J).toArray] W fun e w' => e = .returned (.bool true) ∧ Below W.heap.size W w') := hid fun W => jb ▸ uIn_any B J hB hJ W
  have HIjc : Hid (∀ W, Calls Try.prog 19 #[.agg (stC J).toArray, .agg (stC C).toArray] W fun e w' => e = .returned (.bool true) ∧ Below W.heap.size W w') := hid fun W => jc ▸ uIn_any J C hJ hC W
  clear jm ja jb jc
  have HW := hid wakes_any
  have ZS : ∀ w, (zeroValue 36).run Try.prog w = .ok (.agg (stC st0).toArray) w := (zero_of_info zs_info).1
  have BS : ∀ w, (Instr.build 36 #[]).run Try.prog w = .ok (.agg (stC st0).toArray) w := bld_s0
  have EQ := y_eq0
  have YN : ∀ (W : World) (S : St), Below w.heap.size w W → w.heap.size ≤ W.heap.size → RwT w.heap.size w ((W.alloc (.cells (stC st0).toArray 36)).setCells W.heap.size 0 (stC S)) W.heap.size 740 (stC S) := fun W S h hg => ynew_st S h hg
  have YT := ythere_st
  generalize st0 = Z0 at *
  replace YN := hid YN
  replace YT := hid YT
  replace EQ := hid EQ
  unfold stV
  obtain ⟨CA, hCA⟩ : ∃ CF, (stC A).toArray = CF := ⟨_, rfl⟩
  obtain ⟨CB, hCB⟩ : ∃ CF, (stC B).toArray = CF := ⟨_, rfl⟩
  obtain ⟨CC, hCC⟩ : ∃ CF, (stC C).toArray = CF := ⟨_, rfl⟩
  obtain ⟨XA, XB, XC⟩ := st_entry3 (w := w) A B C hCA hCB hCC
  rw [hCA, hCB, hCC]
  replace XA := hid XA
  replace XB := hid XB
  replace XC := hid XC
  clear hCA hCB hCC hA hB hC ma mb iab ibc iac hJ
  go_enter Try.func8, Try.ntmps8
  go_wp2_with (first | ((with_reducible refine at_load (d := some 9) 36 ?_); refine wpList_load_g (by rfl) 36 _ rfl w.heap.size 0 rfl (stC A) _ XA.out.i.r0 Try.underlying36 rfl (yhs _) ?_))
  refine (HMa.out _).mono ?_
  rintro e w1 ⟨rfl, z⟩
  have ys := (show w.heap.size ≤ w.heap.size from Nat.le_refl _)
  have XAn := XA.out.next z (by simp; omega)
  have XBn := XB.out.next z (by simp; omega)
  have XCn := XC.out.next z (by simp; omega)
  clear z ys XA XB XC
  have XA := hid XAn
  clear XAn
  have XB := hid XBn
  clear XBn
  have XC := hid XCn
  clear XCn
  go_wp2_with (first | ((with_reducible refine at_load (d := some 11) 36 ?_); refine wpList_load_g (by rfl) 36 _ rfl w.heap.size 0 rfl (stC A) _ XA.out.i.r0 Try.underlying36 rfl (yhs _) ?_) | ((with_reducible refine at_load (d := some 12) 36 ?_); refine wpList_load_g (by rfl) 36 _ rfl w.heap.size 0 rfl (stC A) _ XA.out.i.r0 Try.underlying36 rfl (yhs _) ?_))
  refine (HIaa.out _).mono ?_
  rintro e w2 ⟨rfl, z⟩
  have ys := XA.out.i.bel.size
  have XAn := XA.out.next z XA.out.i.bel.size
  have XBn := XB.out.next z XA.out.i.bel.size
  have XCn := XC.out.next z XA.out.i.bel.size
  clear z ys XA XB XC
  have XA := hid XAn
  clear XAn
  have XB := hid XBn
  clear XBn
  have XC := hid XCn
  clear XCn
  go_wp2_with (first | ((with_reducible refine at_load (d := some 16) 36 ?_); refine wpList_load_g (by rfl) 36 _ rfl w.heap.size 0 rfl (stC A) _ XA.out.i.r0 Try.underlying36 rfl (yhs _) ?_) | ((with_reducible refine at_load (d := some 17) 36 ?_); refine wpList_load_g (by rfl) 36 _ rfl (w.heap.size + 1) 0 rfl (stC B) _ XB.out.i.r0 Try.underlying36 rfl (yhs _) ?_))
  refine (HIab.out _).mono ?_
  rintro e w3 ⟨rfl, z⟩
  have ys := XA.out.i.bel.size
  have XAn := XA.out.next z XA.out.i.bel.size
  have XBn := XB.out.next z XA.out.i.bel.size
  have XCn := XC.out.next z XA.out.i.bel.size
  clear z ys XA XB XC
  have XA := hid XAn
  clear XAn
  have XB := hid XBn
  clear XBn
  have XC := hid XCn
  clear XCn
  go_wp2_with (first | ((with_reducible refine at_load (d := some 30) 36 ?_); refine wpList_load_g (by rfl) 36 _ rfl w.heap.size 0 rfl (stC A) _ XA.out.i.r0 Try.underlying36 rfl (yhs _) ?_) | ((with_reducible refine at_load (d := some 31) 36 ?_); refine wpList_load_g (by rfl) 36 _ rfl (w.heap.size + 1) 0 rfl (stC B) _ XB.out.i.r0 Try.underlying36 rfl (yhs _) ?_))
  refine (HJ.out _).mono ?_
  rintro e w4 ⟨rfl, z⟩
  have ys := XA.out.i.bel.size
  have XAn := XA.out.next z XA.out.i.bel.size
  have XBn := XB.out.next z XA.out.i.bel.size
  have XCn := XC.out.next z XA.out.i.bel.size
  clear z ys XA XB XC
  have XA := hid XAn
  clear XAn
  have XB := hid XBn
  clear XBn
  have XC := hid XCn
  clear XCn
  have BE := XA.out.i.bel
  have XJ := hid (YN.out w4 J BE BE.size)
  have TJ := hid (YT.out w4)
  have XAn := XA.out.made (o := .cells (stC Z0).toArray 36) (c := w4.heap.size) (m := 0) (vs := stC J) BE.size rfl
  clear XA
  have XA := hid XAn
  clear XAn
  have XBn := XB.out.made (o := .cells (stC Z0).toArray 36) (c := w4.heap.size) (m := 0) (vs := stC J) BE.size rfl
  clear XB
  have XB := hid XBn
  clear XBn
  have XCn := XC.out.made (o := .cells (stC Z0).toArray 36) (c := w4.heap.size) (m := 0) (vs := stC J) BE.size rfl
  clear XC
  have XC := hid XCn
  clear XCn
  have lJ := BE.size
  clear BE
  have lz : w.heap.size ≤ w4.heap.size := lJ
  go_wp2_with (first | ((with_reducible refine at_load (d := some 36) 36 ?_); refine wpList_load_g (by rfl) 36 _ rfl (w.heap.size + 1) 0 rfl (stC B) _ XB.out.i.r0 Try.underlying36 rfl (yhs _) ?_) | ((with_reducible refine at_store (x := .tmp 8) (y := .tmp 32) 36 ?_); refine wpList_store_st (.tmp 8) (.tmp 32) rfl rfl w4.heap.size J rfl rfl TJ.out ?_))
  refine (HMb.out _).mono ?_
  rintro e w5 ⟨rfl, z⟩
  have ys := XA.out.i.bel.size
  have XAn := XA.out.next z XA.out.i.bel.size
  have XBn := XB.out.next z XA.out.i.bel.size
  have XCn := XC.out.next z XA.out.i.bel.size
  have XJn := XJ.out.next z XA.out.i.bel.size
  clear z ys XA XB XC XJ
  have XA := hid XAn
  clear XAn
  have XB := hid XBn
  clear XBn
  have XC := hid XCn
  clear XCn
  have XJ := hid XJn
  clear XJn
  go_wp2_with (first | ((with_reducible refine at_load (d := some 52) 36 ?_); refine wpList_load_g (by rfl) 36 _ rfl w4.heap.size 0 rfl (stC J) _ XJ.out.i.r0 Try.underlying36 rfl (yhs _) ?_))
  refine (HMj.out _).mono ?_
  rintro e w6 ⟨rfl, z⟩
  have ys := XA.out.i.bel.size
  have XAn := XA.out.next z XA.out.i.bel.size
  have XBn := XB.out.next z XA.out.i.bel.size
  have XCn := XC.out.next z XA.out.i.bel.size
  have XJn := XJ.out.next z XA.out.i.bel.size
  clear z ys XA XB XC XJ
  have XA := hid XAn
  clear XAn
  have XB := hid XBn
  clear XBn
  have XC := hid XCn
  clear XCn
  have XJ := hid XJn
  clear XJn
  go_wp2_with (first | ((with_reducible refine at_load (d := some 56) 36 ?_); refine wpList_load_g (by rfl) 36 _ rfl w.heap.size 0 rfl (stC A) _ XA.out.i.r0 Try.underlying36 rfl (yhs _) ?_) | ((with_reducible refine at_load (d := some 57) 36 ?_); refine wpList_load_g (by rfl) 36 _ rfl w4.heap.size 0 rfl (stC J) _ XJ.out.i.r0 Try.underlying36 rfl (yhs _) ?_))
  refine (HIaj.out _).mono ?_
  rintro e w7 ⟨rfl, z⟩
  have ys := XA.out.i.bel.size
  have XAn := XA.out.next z XA.out.i.bel.size
  have XBn := XB.out.next z XA.out.i.bel.size
  have XCn := XC.out.next z XA.out.i.bel.size
  have XJn := XJ.out.next z XA.out.i.bel.size
  clear z ys XA XB XC XJ
  have XA := hid XAn
  clear XAn
  have XB := hid XBn
  clear XBn
  have XC := hid XCn
  clear XCn
  have XJ := hid XJn
  clear XJn
  go_wp2_with (first | ((with_reducible refine at_load (d := some 62) 36 ?_); refine wpList_load_g (by rfl) 36 _ rfl (w.heap.size + 1) 0 rfl (stC B) _ XB.out.i.r0 Try.underlying36 rfl (yhs _) ?_) | ((with_reducible refine at_load (d := some 63) 36 ?_); refine wpList_load_g (by rfl) 36 _ rfl w4.heap.size 0 rfl (stC J) _ XJ.out.i.r0 Try.underlying36 rfl (yhs _) ?_))
  refine (HIbj.out _).mono ?_
  rintro e w8 ⟨rfl, z⟩
  have ys := XA.out.i.bel.size
  have XAn := XA.out.next z XA.out.i.bel.size
  have XBn := XB.out.next z XA.out.i.bel.size
  have XCn := XC.out.next z XA.out.i.bel.size
  have XJn := XJ.out.next z XA.out.i.bel.size
  clear z ys XA XB XC XJ
  have XA := hid XAn
  clear XAn
  have XB := hid XBn
  clear XBn
  have XC := hid XCn
  clear XCn
  have XJ := hid XJn
  clear XJn
  go_wp2_with (first | ((with_reducible refine at_load (d := some 67) 36 ?_); refine wpList_load_g (by rfl) 36 _ rfl w.heap.size 0 rfl (stC A) _ XA.out.i.r0 Try.underlying36 rfl (yhs _) ?_) | ((with_reducible refine at_load (d := some 68) 36 ?_); refine wpList_load_g (by rfl) 36 _ rfl (w.heap.size + 1 + 1) 0 rfl (stC C) _ XC.out.i.r0 Try.underlying36 rfl (yhs _) ?_))
  refine (HIac.out _).mono ?_
  rintro e w9 ⟨rfl, z⟩
  have ys := XA.out.i.bel.size
  have XAn := XA.out.next z XA.out.i.bel.size
  have XBn := XB.out.next z XA.out.i.bel.size
  have XCn := XC.out.next z XA.out.i.bel.size
  have XJn := XJ.out.next z XA.out.i.bel.size
  clear z ys XA XB XC XJ
  have XA := hid XAn
  clear XAn
  have XB := hid XBn
  clear XBn
  have XC := hid XCn
  clear XCn
  have XJ := hid XJn
  clear XJn
  go_wp2_with (first | ((with_reducible refine at_load (d := some 71) 36 ?_); refine wpList_load_g (by rfl) 36 _ rfl (w.heap.size + 1) 0 rfl (stC B) _ XB.out.i.r0 Try.underlying36 rfl (yhs _) ?_) | ((with_reducible refine at_load (d := some 72) 36 ?_); refine wpList_load_g (by rfl) 36 _ rfl (w.heap.size + 1 + 1) 0 rfl (stC C) _ XC.out.i.r0 Try.underlying36 rfl (yhs _) ?_))
  refine (HIbc.out _).mono ?_
  rintro e w10 ⟨rfl, z⟩
  have ys := XA.out.i.bel.size
  have XAn := XA.out.next z XA.out.i.bel.size
  have XBn := XB.out.next z XA.out.i.bel.size
  have XCn := XC.out.next z XA.out.i.bel.size
  have XJn := XJ.out.next z XA.out.i.bel.size
  clear z ys XA XB XC XJ
  have XA := hid XAn
  clear XAn
  have XB := hid XBn
  clear XBn
  have XC := hid XCn
  clear XCn
  have XJ := hid XJn
  clear XJn
  go_wp2_with (first | ((with_reducible refine at_load (d := some 76) 36 ?_); refine wpList_load_g (by rfl) 36 _ rfl w4.heap.size 0 rfl (stC J) _ XJ.out.i.r0 Try.underlying36 rfl (yhs _) ?_) | ((with_reducible refine at_load (d := some 77) 36 ?_); refine wpList_load_g (by rfl) 36 _ rfl (w.heap.size + 1 + 1) 0 rfl (stC C) _ XC.out.i.r0 Try.underlying36 rfl (yhs _) ?_))
  refine (HIjc.out _).mono ?_
  rintro e w11 ⟨rfl, z⟩
  have ys := XA.out.i.bel.size
  have XAn := XA.out.next z XA.out.i.bel.size
  have XBn := XB.out.next z XA.out.i.bel.size
  have XCn := XC.out.next z XA.out.i.bel.size
  have XJn := XJ.out.next z XA.out.i.bel.size
  clear z ys XA XB XC XJ
  have XA := hid XAn
  clear XAn
  have XB := hid XBn
  clear XBn
  have XC := hid XCn
  clear XCn
  have XJ := hid XJn
  clear XJn
  go_wp2_with (first | ((with_reducible refine at_load (d := some 81) 36 ?_); refine wpList_load_g (by rfl) 36 _ rfl w.heap.size 0 rfl (stC A) _ XA.out.i.r0 Try.underlying36 rfl (yhs _) ?_) | ((with_reducible refine at_load (d := some 82) 36 ?_); refine wpList_load_g (by rfl) 36 _ rfl (w.heap.size + 1) 0 rfl (stC B) _ XB.out.i.r0 Try.underlying36 rfl (yhs _) ?_))
  refine (HIab.out _).mono ?_
  rintro e w12 ⟨rfl, z⟩
  have ys := XA.out.i.bel.size
  have XAn := XA.out.next z XA.out.i.bel.size
  have XBn := XB.out.next z XA.out.i.bel.size
  have XCn := XC.out.next z XA.out.i.bel.size
  have XJn := XJ.out.next z XA.out.i.bel.size
  clear z ys XA XB XC XJ
  have XA := hid XAn
  clear XAn
  have XB := hid XBn
  clear XBn
  have XC := hid XCn
  clear XCn
  have XJ := hid XJn
  clear XJn
  go_wp2_with fail
  refine (HW.out _).mono ?_
  rintro e w13 ⟨rfl, z⟩
  have ys := XA.out.i.bel.size
  have XAn := XA.out.next z XA.out.i.bel.size
  have XBn := XB.out.next z XA.out.i.bel.size
  have XCn := XC.out.next z XA.out.i.bel.size
  have XJn := XJ.out.next z XA.out.i.bel.size
  clear z ys XA XB XC XJ
  have XA := hid XAn
  clear XAn
  have XB := hid XBn
  clear XBn
  have XC := hid XCn
  clear XCn
  have XJ := hid XJn
  clear XJn
  go_wp2_with fail
  go_ret
  exact ⟨rfl, XA.out.i.bel⟩
set_option maxHeartbeats 16000000 in
theorem ord_100 (A B C : St) (hA : StOk A) (hB : StOk B) (hC : StOk C) (ma : sMay A = true) (mb : sMay B = true) (iab : sIn A B = true) (ibc : sIn B C = false) (iac : sIn A C = false) (w : World) : Calls Try.prog 8 #[stV A, stV B, stV C] w fun e w' => e = .returned (.bool true) ∧ Below w.heap.size w w' := by
  have HMa : Hid (∀ W, Calls Try.prog 11 #[.agg (stC A).toArray] W fun e w' => e = .returned (.bool true) ∧ Below W.heap.size W w') := hid fun W => ma ▸ uMay_any A hA W
  have HIaa : Hid (∀ W, Calls Try.prog 19 #[.agg (stC A).toArray, .agg (stC A).toArray] W fun e w' => e = .returned (.bool true) ∧ Below W.heap.size W w') := hid fun W => ((sIn_self A).trans ma) ▸ uIn_any A A hA hA W
  have HIab : Hid (∀ W, Calls Try.prog 19 #[.agg (stC A).toArray, .agg (stC B).toArray] W fun e w' => e = .returned (.bool true) ∧ Below W.heap.size W w') := hid fun W => iab ▸ uIn_any A B hA hB W
  have HIbc : Hid (∀ W, Calls Try.prog 19 #[.agg (stC B).toArray, .agg (stC C).toArray] W fun e w' => e = .returned (.bool false) ∧ Below W.heap.size W w') := hid fun W => ibc ▸ uIn_any B C hB hC W
  have HIac : Hid (∀ W, Calls Try.prog 19 #[.agg (stC A).toArray, .agg (stC C).toArray] W fun e w' => e = .returned (.bool false) ∧ Below W.heap.size W w') := hid fun W => iac ▸ uIn_any A C hA hC W
  have HMb : Hid (∀ W, Calls Try.prog 11 #[.agg (stC B).toArray] W fun e w' => e = .returned (.bool true) ∧ Below W.heap.size W w') := hid fun W => mb ▸ uMay_any B hB W
  obtain ⟨jm, ja, jb⟩ := sJoin_up ma mb
  have hJ := sJoin_StOk hA hB
  have jbb := sJoin_least iab ((sIn_self B).trans mb)
  have HJ : Hid (∀ W, Calls Try.prog 21 #[.agg (stC A).toArray, .agg (stC B).toArray] W fun e w' => e = .returned (.agg (stC (sJoin A B)).toArray) ∧ Below W.heap.size W w') := hid fun W => uJoin_any A B hA hB W
  obtain ⟨J, hj⟩ : ∃ J, sJoin A B = J := ⟨_, rfl⟩
  rw [hj] at HJ jm ja jb hJ jbb
  clear hj
  have HMj : Hid (∀ W, Calls Try.prog 11 #[.agg (stC J).toArray] W fun e w' => e = .returned (.bool true) ∧ Below W.heap.size W w') := hid fun W => jm ▸ uMay_any J hJ W
  have HIaj : Hid (∀ W, Calls Try.prog 19 #[.agg (stC A).toArray, .agg (stC J).toArray] W fun e w' => e = .returned (.bool true) ∧ Below W.heap.size W w') := hid fun W => ja ▸ uIn_any A J hA hJ W
  have HIbj : Hid (∀ W, Calls Try.prog 19 #[.agg (stC B).toArray, .agg (stC J).toArray] W fun e w' => e = .returned (.bool true) ∧ Below W.heap.size W w') := hid fun W => jb ▸ uIn_any B J hB hJ W
  have HIjb : Hid (∀ W, Calls Try.prog 19 #[.agg (stC J).toArray, .agg (stC B).toArray] W fun e w' => e = .returned (.bool true) ∧ Below W.heap.size W w') := hid fun W => jbb ▸ uIn_any J B hJ hB W
  clear jm ja jb jbb
  have HW := hid wakes_any
  have ZS : ∀ w, (zeroValue 36).run Try.prog w = .ok (.agg (stC st0).toArray) w := (zero_of_info zs_info).1
  have BS : ∀ w, (Instr.build 36 #[]).run Try.prog w = .ok (.agg (stC st0).toArray) w := bld_s0
  have EQ := y_eq0
  have YN : ∀ (W : World) (S : St), Below w.heap.size w W → w.heap.size ≤ W.heap.size → RwT w.heap.size w ((W.alloc (.cells (stC st0).toArray 36)).setCells W.heap.size 0 (stC S)) W.heap.size 740 (stC S) := fun W S h hg => ynew_st S h hg
  have YT := ythere_st
  generalize st0 = Z0 at *
  replace YN := hid YN
  replace YT := hid YT
  replace EQ := hid EQ
  unfold stV
  obtain ⟨CA, hCA⟩ : ∃ CF, (stC A).toArray = CF := ⟨_, rfl⟩
  obtain ⟨CB, hCB⟩ : ∃ CF, (stC B).toArray = CF := ⟨_, rfl⟩
  obtain ⟨CC, hCC⟩ : ∃ CF, (stC C).toArray = CF := ⟨_, rfl⟩
  obtain ⟨XA, XB, XC⟩ := st_entry3 (w := w) A B C hCA hCB hCC
  rw [hCA, hCB, hCC]
  replace XA := hid XA
  replace XB := hid XB
  replace XC := hid XC
  clear hCA hCB hCC hA hB hC ma mb iab ibc iac hJ
  go_enter Try.func8, Try.ntmps8
  go_wp2_with (first | ((with_reducible refine at_load (d := some 9) 36 ?_); refine wpList_load_g (by rfl) 36 _ rfl w.heap.size 0 rfl (stC A) _ XA.out.i.r0 Try.underlying36 rfl (yhs _) ?_))
  refine (HMa.out _).mono ?_
  rintro e w1 ⟨rfl, z⟩
  have ys := (show w.heap.size ≤ w.heap.size from Nat.le_refl _)
  have XAn := XA.out.next z (by simp; omega)
  have XBn := XB.out.next z (by simp; omega)
  have XCn := XC.out.next z (by simp; omega)
  clear z ys XA XB XC
  have XA := hid XAn
  clear XAn
  have XB := hid XBn
  clear XBn
  have XC := hid XCn
  clear XCn
  go_wp2_with (first | ((with_reducible refine at_load (d := some 11) 36 ?_); refine wpList_load_g (by rfl) 36 _ rfl w.heap.size 0 rfl (stC A) _ XA.out.i.r0 Try.underlying36 rfl (yhs _) ?_) | ((with_reducible refine at_load (d := some 12) 36 ?_); refine wpList_load_g (by rfl) 36 _ rfl w.heap.size 0 rfl (stC A) _ XA.out.i.r0 Try.underlying36 rfl (yhs _) ?_))
  refine (HIaa.out _).mono ?_
  rintro e w2 ⟨rfl, z⟩
  have ys := XA.out.i.bel.size
  have XAn := XA.out.next z XA.out.i.bel.size
  have XBn := XB.out.next z XA.out.i.bel.size
  have XCn := XC.out.next z XA.out.i.bel.size
  clear z ys XA XB XC
  have XA := hid XAn
  clear XAn
  have XB := hid XBn
  clear XBn
  have XC := hid XCn
  clear XCn
  go_wp2_with (first | ((with_reducible refine at_load (d := some 16) 36 ?_); refine wpList_load_g (by rfl) 36 _ rfl w.heap.size 0 rfl (stC A) _ XA.out.i.r0 Try.underlying36 rfl (yhs _) ?_) | ((with_reducible refine at_load (d := some 17) 36 ?_); refine wpList_load_g (by rfl) 36 _ rfl (w.heap.size + 1) 0 rfl (stC B) _ XB.out.i.r0 Try.underlying36 rfl (yhs _) ?_))
  refine (HIab.out _).mono ?_
  rintro e w3 ⟨rfl, z⟩
  have ys := XA.out.i.bel.size
  have XAn := XA.out.next z XA.out.i.bel.size
  have XBn := XB.out.next z XA.out.i.bel.size
  have XCn := XC.out.next z XA.out.i.bel.size
  clear z ys XA XB XC
  have XA := hid XAn
  clear XAn
  have XB := hid XBn
  clear XBn
  have XC := hid XCn
  clear XCn
  go_wp2_with (first | ((with_reducible refine at_load (d := some 20) 36 ?_); refine wpList_load_g (by rfl) 36 _ rfl (w.heap.size + 1) 0 rfl (stC B) _ XB.out.i.r0 Try.underlying36 rfl (yhs _) ?_) | ((with_reducible refine at_load (d := some 21) 36 ?_); refine wpList_load_g (by rfl) 36 _ rfl (w.heap.size + 1 + 1) 0 rfl (stC C) _ XC.out.i.r0 Try.underlying36 rfl (yhs _) ?_))
  refine (HIbc.out _).mono ?_
  rintro e w4 ⟨rfl, z⟩
  have ys := XA.out.i.bel.size
  have XAn := XA.out.next z XA.out.i.bel.size
  have XBn := XB.out.next z XA.out.i.bel.size
  have XCn := XC.out.next z XA.out.i.bel.size
  clear z ys XA XB XC
  have XA := hid XAn
  clear XAn
  have XB := hid XBn
  clear XBn
  have XC := hid XCn
  clear XCn
  go_wp2_with (first | ((with_reducible refine at_load (d := some 30) 36 ?_); refine wpList_load_g (by rfl) 36 _ rfl w.heap.size 0 rfl (stC A) _ XA.out.i.r0 Try.underlying36 rfl (yhs _) ?_) | ((with_reducible refine at_load (d := some 31) 36 ?_); refine wpList_load_g (by rfl) 36 _ rfl (w.heap.size + 1) 0 rfl (stC B) _ XB.out.i.r0 Try.underlying36 rfl (yhs _) ?_))
  refine (HJ.out _).mono ?_
  rintro e w5 ⟨rfl, z⟩
  have ys := XA.out.i.bel.size
  have XAn := XA.out.next z XA.out.i.bel.size
  have XBn := XB.out.next z XA.out.i.bel.size
  have XCn := XC.out.next z XA.out.i.bel.size
  clear z ys XA XB XC
  have XA := hid XAn
  clear XAn
  have XB := hid XBn
  clear XBn
  have XC := hid XCn
  clear XCn
  have BE := XA.out.i.bel
  have XJ := hid (YN.out w5 J BE BE.size)
  have TJ := hid (YT.out w5)
  have XAn := XA.out.made (o := .cells (stC Z0).toArray 36) (c := w5.heap.size) (m := 0) (vs := stC J) BE.size rfl
  clear XA
  have XA := hid XAn
  clear XAn
  have XBn := XB.out.made (o := .cells (stC Z0).toArray 36) (c := w5.heap.size) (m := 0) (vs := stC J) BE.size rfl
  clear XB
  have XB := hid XBn
  clear XBn
  have XCn := XC.out.made (o := .cells (stC Z0).toArray 36) (c := w5.heap.size) (m := 0) (vs := stC J) BE.size rfl
  clear XC
  have XC := hid XCn
  clear XCn
  have lJ := BE.size
  clear BE
  have lz : w.heap.size ≤ w5.heap.size := lJ
  go_wp2_with (first | ((with_reducible refine at_load (d := some 36) 36 ?_); refine wpList_load_g (by rfl) 36 _ rfl (w.heap.size + 1) 0 rfl (stC B) _ XB.out.i.r0 Try.underlying36 rfl (yhs _) ?_) | ((with_reducible refine at_store (x := .tmp 8) (y := .tmp 32) 36 ?_); refine wpList_store_st (.tmp 8) (.tmp 32) rfl rfl w5.heap.size J rfl rfl TJ.out ?_))
  refine (HMb.out _).mono ?_
  rintro e w6 ⟨rfl, z⟩
  have ys := XA.out.i.bel.size
  have XAn := XA.out.next z XA.out.i.bel.size
  have XBn := XB.out.next z XA.out.i.bel.size
  have XCn := XC.out.next z XA.out.i.bel.size
  have XJn := XJ.out.next z XA.out.i.bel.size
  clear z ys XA XB XC XJ
  have XA := hid XAn
  clear XAn
  have XB := hid XBn
  clear XBn
  have XC := hid XCn
  clear XCn
  have XJ := hid XJn
  clear XJn
  go_wp2_with (first | ((with_reducible refine at_load (d := some 52) 36 ?_); refine wpList_load_g (by rfl) 36 _ rfl w5.heap.size 0 rfl (stC J) _ XJ.out.i.r0 Try.underlying36 rfl (yhs _) ?_))
  refine (HMj.out _).mono ?_
  rintro e w7 ⟨rfl, z⟩
  have ys := XA.out.i.bel.size
  have XAn := XA.out.next z XA.out.i.bel.size
  have XBn := XB.out.next z XA.out.i.bel.size
  have XCn := XC.out.next z XA.out.i.bel.size
  have XJn := XJ.out.next z XA.out.i.bel.size
  clear z ys XA XB XC XJ
  have XA := hid XAn
  clear XAn
  have XB := hid XBn
  clear XBn
  have XC := hid XCn
  clear XCn
  have XJ := hid XJn
  clear XJn
  go_wp2_with (first | ((with_reducible refine at_load (d := some 56) 36 ?_); refine wpList_load_g (by rfl) 36 _ rfl w.heap.size 0 rfl (stC A) _ XA.out.i.r0 Try.underlying36 rfl (yhs _) ?_) | ((with_reducible refine at_load (d := some 57) 36 ?_); refine wpList_load_g (by rfl) 36 _ rfl w5.heap.size 0 rfl (stC J) _ XJ.out.i.r0 Try.underlying36 rfl (yhs _) ?_))
  refine (HIaj.out _).mono ?_
  rintro e w8 ⟨rfl, z⟩
  have ys := XA.out.i.bel.size
  have XAn := XA.out.next z XA.out.i.bel.size
  have XBn := XB.out.next z XA.out.i.bel.size
  have XCn := XC.out.next z XA.out.i.bel.size
  have XJn := XJ.out.next z XA.out.i.bel.size
  clear z ys XA XB XC XJ
  have XA := hid XAn
  clear XAn
  have XB := hid XBn
  clear XBn
  have XC := hid XCn
  clear XCn
  have XJ := hid XJn
  clear XJn
  go_wp2_with (first | ((with_reducible refine at_load (d := some 62) 36 ?_); refine wpList_load_g (by rfl) 36 _ rfl (w.heap.size + 1) 0 rfl (stC B) _ XB.out.i.r0 Try.underlying36 rfl (yhs _) ?_) | ((with_reducible refine at_load (d := some 63) 36 ?_); refine wpList_load_g (by rfl) 36 _ rfl w5.heap.size 0 rfl (stC J) _ XJ.out.i.r0 Try.underlying36 rfl (yhs _) ?_))
  refine (HIbj.out _).mono ?_
  rintro e w9 ⟨rfl, z⟩
  have ys := XA.out.i.bel.size
  have XAn := XA.out.next z XA.out.i.bel.size
  have XBn := XB.out.next z XA.out.i.bel.size
  have XCn := XC.out.next z XA.out.i.bel.size
  have XJn := XJ.out.next z XA.out.i.bel.size
  clear z ys XA XB XC XJ
  have XA := hid XAn
  clear XAn
  have XB := hid XBn
  clear XBn
  have XC := hid XCn
  clear XCn
  have XJ := hid XJn
  clear XJn
  go_wp2_with (first | ((with_reducible refine at_load (d := some 67) 36 ?_); refine wpList_load_g (by rfl) 36 _ rfl w.heap.size 0 rfl (stC A) _ XA.out.i.r0 Try.underlying36 rfl (yhs _) ?_) | ((with_reducible refine at_load (d := some 68) 36 ?_); refine wpList_load_g (by rfl) 36 _ rfl (w.heap.size + 1 + 1) 0 rfl (stC C) _ XC.out.i.r0 Try.underlying36 rfl (yhs _) ?_))
  refine (HIac.out _).mono ?_
  rintro e w10 ⟨rfl, z⟩
  have ys := XA.out.i.bel.size
  have XAn := XA.out.next z XA.out.i.bel.size
  have XBn := XB.out.next z XA.out.i.bel.size
  have XCn := XC.out.next z XA.out.i.bel.size
  have XJn := XJ.out.next z XA.out.i.bel.size
  clear z ys XA XB XC XJ
  have XA := hid XAn
  clear XAn
  have XB := hid XBn
  clear XBn
  have XC := hid XCn
  clear XCn
  have XJ := hid XJn
  clear XJn
  go_wp2_with (first | ((with_reducible refine at_load (d := some 81) 36 ?_); refine wpList_load_g (by rfl) 36 _ rfl w.heap.size 0 rfl (stC A) _ XA.out.i.r0 Try.underlying36 rfl (yhs _) ?_) | ((with_reducible refine at_load (d := some 82) 36 ?_); refine wpList_load_g (by rfl) 36 _ rfl (w.heap.size + 1) 0 rfl (stC B) _ XB.out.i.r0 Try.underlying36 rfl (yhs _) ?_))
  refine (HIab.out _).mono ?_
  rintro e w11 ⟨rfl, z⟩
  have ys := XA.out.i.bel.size
  have XAn := XA.out.next z XA.out.i.bel.size
  have XBn := XB.out.next z XA.out.i.bel.size
  have XCn := XC.out.next z XA.out.i.bel.size
  have XJn := XJ.out.next z XA.out.i.bel.size
  clear z ys XA XB XC XJ
  have XA := hid XAn
  clear XAn
  have XB := hid XBn
  clear XBn
  have XC := hid XCn
  clear XCn
  have XJ := hid XJn
  clear XJn
  go_wp2_with (first | ((with_reducible refine at_load (d := some 85) 36 ?_); refine wpList_load_g (by rfl) 36 _ rfl w5.heap.size 0 rfl (stC J) _ XJ.out.i.r0 Try.underlying36 rfl (yhs _) ?_) | ((with_reducible refine at_load (d := some 86) 36 ?_); refine wpList_load_g (by rfl) 36 _ rfl (w.heap.size + 1) 0 rfl (stC B) _ XB.out.i.r0 Try.underlying36 rfl (yhs _) ?_))
  refine (HIjb.out _).mono ?_
  rintro e w12 ⟨rfl, z⟩
  have ys := XA.out.i.bel.size
  have XAn := XA.out.next z XA.out.i.bel.size
  have XBn := XB.out.next z XA.out.i.bel.size
  have XCn := XC.out.next z XA.out.i.bel.size
  have XJn := XJ.out.next z XA.out.i.bel.size
  clear z ys XA XB XC XJ
  have XA := hid XAn
  clear XAn
  have XB := hid XBn
  clear XBn
  have XC := hid XCn
  clear XCn
  have XJ := hid XJn
  clear XJn
  go_wp2_with fail
  refine (HW.out _).mono ?_
  rintro e w13 ⟨rfl, z⟩
  have ys := XA.out.i.bel.size
  have XAn := XA.out.next z XA.out.i.bel.size
  have XBn := XB.out.next z XA.out.i.bel.size
  have XCn := XC.out.next z XA.out.i.bel.size
  have XJn := XJ.out.next z XA.out.i.bel.size
  clear z ys XA XB XC XJ
  have XA := hid XAn
  clear XAn
  have XB := hid XBn
  clear XBn
  have XC := hid XCn
  clear XCn
  have XJ := hid XJn
  clear XJn
  go_wp2_with fail
  go_ret
  exact ⟨rfl, XA.out.i.bel⟩
set_option maxHeartbeats 16000000 in
theorem ord_101 (A B C : St) (hA : StOk A) (hB : StOk B) (hC : StOk C) (ma : sMay A = true) (mb : sMay B = true) (iab : sIn A B = true) (ibc : sIn B C = false) (iac : sIn A C = true) (w : World) : Calls Try.prog 8 #[stV A, stV B, stV C] w fun e w' => e = .returned (.bool true) ∧ Below w.heap.size w w' := by
  have HMa : Hid (∀ W, Calls Try.prog 11 #[.agg (stC A).toArray] W fun e w' => e = .returned (.bool true) ∧ Below W.heap.size W w') := hid fun W => ma ▸ uMay_any A hA W
  have HIaa : Hid (∀ W, Calls Try.prog 19 #[.agg (stC A).toArray, .agg (stC A).toArray] W fun e w' => e = .returned (.bool true) ∧ Below W.heap.size W w') := hid fun W => ((sIn_self A).trans ma) ▸ uIn_any A A hA hA W
  have HIab : Hid (∀ W, Calls Try.prog 19 #[.agg (stC A).toArray, .agg (stC B).toArray] W fun e w' => e = .returned (.bool true) ∧ Below W.heap.size W w') := hid fun W => iab ▸ uIn_any A B hA hB W
  have HIbc : Hid (∀ W, Calls Try.prog 19 #[.agg (stC B).toArray, .agg (stC C).toArray] W fun e w' => e = .returned (.bool false) ∧ Below W.heap.size W w') := hid fun W => ibc ▸ uIn_any B C hB hC W
  have HIac : Hid (∀ W, Calls Try.prog 19 #[.agg (stC A).toArray, .agg (stC C).toArray] W fun e w' => e = .returned (.bool true) ∧ Below W.heap.size W w') := hid fun W => iac ▸ uIn_any A C hA hC W
  have HMb : Hid (∀ W, Calls Try.prog 11 #[.agg (stC B).toArray] W fun e w' => e = .returned (.bool true) ∧ Below W.heap.size W w') := hid fun W => mb ▸ uMay_any B hB W
  obtain ⟨jm, ja, jb⟩ := sJoin_up ma mb
  have hJ := sJoin_StOk hA hB
  have jbb := sJoin_least iab ((sIn_self B).trans mb)
  have HJ : Hid (∀ W, Calls Try.prog 21 #[.agg (stC A).toArray, .agg (stC B).toArray] W fun e w' => e = .returned (.agg (stC (sJoin A B)).toArray) ∧ Below W.heap.size W w') := hid fun W => uJoin_any A B hA hB W
  obtain ⟨J, hj⟩ : ∃ J, sJoin A B = J := ⟨_, rfl⟩
  rw [hj] at HJ jm ja jb hJ jbb
  clear hj
  have HMj : Hid (∀ W, Calls Try.prog 11 #[.agg (stC J).toArray] W fun e w' => e = .returned (.bool true) ∧ Below W.heap.size W w') := hid fun W => jm ▸ uMay_any J hJ W
  have HIaj : Hid (∀ W, Calls Try.prog 19 #[.agg (stC A).toArray, .agg (stC J).toArray] W fun e w' => e = .returned (.bool true) ∧ Below W.heap.size W w') := hid fun W => ja ▸ uIn_any A J hA hJ W
  have HIbj : Hid (∀ W, Calls Try.prog 19 #[.agg (stC B).toArray, .agg (stC J).toArray] W fun e w' => e = .returned (.bool true) ∧ Below W.heap.size W w') := hid fun W => jb ▸ uIn_any B J hB hJ W
  have HIjb : Hid (∀ W, Calls Try.prog 19 #[.agg (stC J).toArray, .agg (stC B).toArray] W fun e w' => e = .returned (.bool true) ∧ Below W.heap.size W w') := hid fun W => jbb ▸ uIn_any J B hJ hB W
  clear jm ja jb jbb
  have HW := hid wakes_any
  have ZS : ∀ w, (zeroValue 36).run Try.prog w = .ok (.agg (stC st0).toArray) w := (zero_of_info zs_info).1
  have BS : ∀ w, (Instr.build 36 #[]).run Try.prog w = .ok (.agg (stC st0).toArray) w := bld_s0
  have EQ := y_eq0
  have YN : ∀ (W : World) (S : St), Below w.heap.size w W → w.heap.size ≤ W.heap.size → RwT w.heap.size w ((W.alloc (.cells (stC st0).toArray 36)).setCells W.heap.size 0 (stC S)) W.heap.size 740 (stC S) := fun W S h hg => ynew_st S h hg
  have YT := ythere_st
  generalize st0 = Z0 at *
  replace YN := hid YN
  replace YT := hid YT
  replace EQ := hid EQ
  unfold stV
  obtain ⟨CA, hCA⟩ : ∃ CF, (stC A).toArray = CF := ⟨_, rfl⟩
  obtain ⟨CB, hCB⟩ : ∃ CF, (stC B).toArray = CF := ⟨_, rfl⟩
  obtain ⟨CC, hCC⟩ : ∃ CF, (stC C).toArray = CF := ⟨_, rfl⟩
  obtain ⟨XA, XB, XC⟩ := st_entry3 (w := w) A B C hCA hCB hCC
  rw [hCA, hCB, hCC]
  replace XA := hid XA
  replace XB := hid XB
  replace XC := hid XC
  clear hCA hCB hCC hA hB hC ma mb iab ibc iac hJ
  go_enter Try.func8, Try.ntmps8
  go_wp2_with (first | ((with_reducible refine at_load (d := some 9) 36 ?_); refine wpList_load_g (by rfl) 36 _ rfl w.heap.size 0 rfl (stC A) _ XA.out.i.r0 Try.underlying36 rfl (yhs _) ?_))
  refine (HMa.out _).mono ?_
  rintro e w1 ⟨rfl, z⟩
  have ys := (show w.heap.size ≤ w.heap.size from Nat.le_refl _)
  have XAn := XA.out.next z (by simp; omega)
  have XBn := XB.out.next z (by simp; omega)
  have XCn := XC.out.next z (by simp; omega)
  clear z ys XA XB XC
  have XA := hid XAn
  clear XAn
  have XB := hid XBn
  clear XBn
  have XC := hid XCn
  clear XCn
  go_wp2_with (first | ((with_reducible refine at_load (d := some 11) 36 ?_); refine wpList_load_g (by rfl) 36 _ rfl w.heap.size 0 rfl (stC A) _ XA.out.i.r0 Try.underlying36 rfl (yhs _) ?_) | ((with_reducible refine at_load (d := some 12) 36 ?_); refine wpList_load_g (by rfl) 36 _ rfl w.heap.size 0 rfl (stC A) _ XA.out.i.r0 Try.underlying36 rfl (yhs _) ?_))
  refine (HIaa.out _).mono ?_
  rintro e w2 ⟨rfl, z⟩
  have ys := XA.out.i.bel.size
  have XAn := XA.out.next z XA.out.i.bel.size
  have XBn := XB.out.next z XA.out.i.bel.size
  have XCn := XC.out.next z XA.out.i.bel.size
  clear z ys XA XB XC
  have XA := hid XAn
  clear XAn
  have XB := hid XBn
  clear XBn
  have XC := hid XCn
  clear XCn
  go_wp2_with (first | ((with_reducible refine at_load (d := some 16) 36 ?_); refine wpList_load_g (by rfl) 36 _ rfl w.heap.size 0 rfl (stC A) _ XA.out.i.r0 Try.underlying36 rfl (yhs _) ?_) | ((with_reducible refine at_load (d := some 17) 36 ?_); refine wpList_load_g (by rfl) 36 _ rfl (w.heap.size + 1) 0 rfl (stC B) _ XB.out.i.r0 Try.underlying36 rfl (yhs _) ?_))
  refine (HIab.out _).mono ?_
  rintro e w3 ⟨rfl, z⟩
  have ys := XA.out.i.bel.size
  have XAn := XA.out.next z XA.out.i.bel.size
  have XBn := XB.out.next z XA.out.i.bel.size
  have XCn := XC.out.next z XA.out.i.bel.size
  clear z ys XA XB XC
  have XA := hid XAn
  clear XAn
  have XB := hid XBn
  clear XBn
  have XC := hid XCn
  clear XCn
  go_wp2_with (first | ((with_reducible refine at_load (d := some 20) 36 ?_); refine wpList_load_g (by rfl) 36 _ rfl (w.heap.size + 1) 0 rfl (stC B) _ XB.out.i.r0 Try.underlying36 rfl (yhs _) ?_) | ((with_reducible refine at_load (d := some 21) 36 ?_); refine wpList_load_g (by rfl) 36 _ rfl (w.heap.size + 1 + 1) 0 rfl (stC C) _ XC.out.i.r0 Try.underlying36 rfl (yhs _) ?_))
  refine (HIbc.out _).mono ?_
  rintro e w4 ⟨rfl, z⟩
  have ys := XA.out.i.bel.size
  have XAn := XA.out.next z XA.out.i.bel.size
  have XBn := XB.out.next z XA.out.i.bel.size
  have XCn := XC.out.next z XA.out.i.bel.size
  clear z ys XA XB XC
  have XA := hid XAn
  clear XAn
  have XB := hid XBn
  clear XBn
  have XC := hid XCn
  clear XCn
  go_wp2_with (first | ((with_reducible refine at_load (d := some 30) 36 ?_); refine wpList_load_g (by rfl) 36 _ rfl w.heap.size 0 rfl (stC A) _ XA.out.i.r0 Try.underlying36 rfl (yhs _) ?_) | ((with_reducible refine at_load (d := some 31) 36 ?_); refine wpList_load_g (by rfl) 36 _ rfl (w.heap.size + 1) 0 rfl (stC B) _ XB.out.i.r0 Try.underlying36 rfl (yhs _) ?_))
  refine (HJ.out _).mono ?_
  rintro e w5 ⟨rfl, z⟩
  have ys := XA.out.i.bel.size
  have XAn := XA.out.next z XA.out.i.bel.size
  have XBn := XB.out.next z XA.out.i.bel.size
  have XCn := XC.out.next z XA.out.i.bel.size
  clear z ys XA XB XC
  have XA := hid XAn
  clear XAn
  have XB := hid XBn
  clear XBn
  have XC := hid XCn
  clear XCn
  have BE := XA.out.i.bel
  have XJ := hid (YN.out w5 J BE BE.size)
  have TJ := hid (YT.out w5)
  have XAn := XA.out.made (o := .cells (stC Z0).toArray 36) (c := w5.heap.size) (m := 0) (vs := stC J) BE.size rfl
  clear XA
  have XA := hid XAn
  clear XAn
  have XBn := XB.out.made (o := .cells (stC Z0).toArray 36) (c := w5.heap.size) (m := 0) (vs := stC J) BE.size rfl
  clear XB
  have XB := hid XBn
  clear XBn
  have XCn := XC.out.made (o := .cells (stC Z0).toArray 36) (c := w5.heap.size) (m := 0) (vs := stC J) BE.size rfl
  clear XC
  have XC := hid XCn
  clear XCn
  have lJ := BE.size
  clear BE
  have lz : w.heap.size ≤ w5.heap.size := lJ
  go_wp2_with (first | ((with_reducible refine at_load (d := some 36) 36 ?_); refine wpList_load_g (by rfl) 36 _ rfl (w.heap.size + 1) 0 rfl (stC B) _ XB.out.i.r0 Try.underlying36 rfl (yhs _) ?_) | ((with_reducible refine at_store (x := .tmp 8) (y := .tmp 32) 36 ?_); refine wpList_store_st (.tmp 8) (.tmp 32) rfl rfl w5.heap.size J rfl rfl TJ.out ?_))
  refine (HMb.out _).mono ?_
  rintro e w6 ⟨rfl, z⟩
  have ys := XA.out.i.bel.size
  have XAn := XA.out.next z XA.out.i.bel.size
  have XBn := XB.out.next z XA.out.i.bel.size
  have XCn := XC.out.next z XA.out.i.bel.size
  have XJn := XJ.out.next z XA.out.i.bel.size
  clear z ys XA XB XC XJ
  have XA := hid XAn
  clear XAn
  have XB := hid XBn
  clear XBn
  have XC := hid XCn
  clear XCn
  have XJ := hid XJn
  clear XJn
  go_wp2_with (first | ((with_reducible refine at_load (d := some 52) 36 ?_); refine wpList_load_g (by rfl) 36 _ rfl w5.heap.size 0 rfl (stC J) _ XJ.out.i.r0 Try.underlying36 rfl (yhs _) ?_))
  refine (HMj.out _).mono ?_
  rintro e w7 ⟨rfl, z⟩
  have ys := XA.out.i.bel.size
  have XAn := XA.out.next z XA.out.i.bel.size
  have XBn := XB.out.next z XA.out.i.bel.size
  have XCn := XC.out.next z XA.out.i.bel.size
  have XJn := XJ.out.next z XA.out.i.bel.size
  clear z ys XA XB XC XJ
  have XA := hid XAn
  clear XAn
  have XB := hid XBn
  clear XBn
  have XC := hid XCn
  clear XCn
  have XJ := hid XJn
  clear XJn
  go_wp2_with (first | ((with_reducible refine at_load (d := some 56) 36 ?_); refine wpList_load_g (by rfl) 36 _ rfl w.heap.size 0 rfl (stC A) _ XA.out.i.r0 Try.underlying36 rfl (yhs _) ?_) | ((with_reducible refine at_load (d := some 57) 36 ?_); refine wpList_load_g (by rfl) 36 _ rfl w5.heap.size 0 rfl (stC J) _ XJ.out.i.r0 Try.underlying36 rfl (yhs _) ?_))
  refine (HIaj.out _).mono ?_
  rintro e w8 ⟨rfl, z⟩
  have ys := XA.out.i.bel.size
  have XAn := XA.out.next z XA.out.i.bel.size
  have XBn := XB.out.next z XA.out.i.bel.size
  have XCn := XC.out.next z XA.out.i.bel.size
  have XJn := XJ.out.next z XA.out.i.bel.size
  clear z ys XA XB XC XJ
  have XA := hid XAn
  clear XAn
  have XB := hid XBn
  clear XBn
  have XC := hid XCn
  clear XCn
  have XJ := hid XJn
  clear XJn
  go_wp2_with (first | ((with_reducible refine at_load (d := some 62) 36 ?_); refine wpList_load_g (by rfl) 36 _ rfl (w.heap.size + 1) 0 rfl (stC B) _ XB.out.i.r0 Try.underlying36 rfl (yhs _) ?_) | ((with_reducible refine at_load (d := some 63) 36 ?_); refine wpList_load_g (by rfl) 36 _ rfl w5.heap.size 0 rfl (stC J) _ XJ.out.i.r0 Try.underlying36 rfl (yhs _) ?_))
  refine (HIbj.out _).mono ?_
  rintro e w9 ⟨rfl, z⟩
  have ys := XA.out.i.bel.size
  have XAn := XA.out.next z XA.out.i.bel.size
  have XBn := XB.out.next z XA.out.i.bel.size
  have XCn := XC.out.next z XA.out.i.bel.size
  have XJn := XJ.out.next z XA.out.i.bel.size
  clear z ys XA XB XC XJ
  have XA := hid XAn
  clear XAn
  have XB := hid XBn
  clear XBn
  have XC := hid XCn
  clear XCn
  have XJ := hid XJn
  clear XJn
  go_wp2_with (first | ((with_reducible refine at_load (d := some 67) 36 ?_); refine wpList_load_g (by rfl) 36 _ rfl w.heap.size 0 rfl (stC A) _ XA.out.i.r0 Try.underlying36 rfl (yhs _) ?_) | ((with_reducible refine at_load (d := some 68) 36 ?_); refine wpList_load_g (by rfl) 36 _ rfl (w.heap.size + 1 + 1) 0 rfl (stC C) _ XC.out.i.r0 Try.underlying36 rfl (yhs _) ?_))
  refine (HIac.out _).mono ?_
  rintro e w10 ⟨rfl, z⟩
  have ys := XA.out.i.bel.size
  have XAn := XA.out.next z XA.out.i.bel.size
  have XBn := XB.out.next z XA.out.i.bel.size
  have XCn := XC.out.next z XA.out.i.bel.size
  have XJn := XJ.out.next z XA.out.i.bel.size
  clear z ys XA XB XC XJ
  have XA := hid XAn
  clear XAn
  have XB := hid XBn
  clear XBn
  have XC := hid XCn
  clear XCn
  have XJ := hid XJn
  clear XJn
  go_wp2_with (first | ((with_reducible refine at_load (d := some 71) 36 ?_); refine wpList_load_g (by rfl) 36 _ rfl (w.heap.size + 1) 0 rfl (stC B) _ XB.out.i.r0 Try.underlying36 rfl (yhs _) ?_) | ((with_reducible refine at_load (d := some 72) 36 ?_); refine wpList_load_g (by rfl) 36 _ rfl (w.heap.size + 1 + 1) 0 rfl (stC C) _ XC.out.i.r0 Try.underlying36 rfl (yhs _) ?_))
  refine (HIbc.out _).mono ?_
  rintro e w11 ⟨rfl, z⟩
  have ys := XA.out.i.bel.size
  have XAn := XA.out.next z XA.out.i.bel.size
  have XBn := XB.out.next z XA.out.i.bel.size
  have XCn := XC.out.next z XA.out.i.bel.size
  have XJn := XJ.out.next z XA.out.i.bel.size
  clear z ys XA XB XC XJ
  have XA := hid XAn
  clear XAn
  have XB := hid XBn
  clear XBn
  have XC := hid XCn
  clear XCn
  have XJ := hid XJn
  clear XJn
  go_wp2_with (first | ((with_reducible refine at_load (d := some 81) 36 ?_); refine wpList_load_g (by rfl) 36 _ rfl w.heap.size 0 rfl (stC A) _ XA.out.i.r0 Try.underlying36 rfl (yhs _) ?_) | ((with_reducible refine at_load (d := some 82) 36 ?_); refine wpList_load_g (by rfl) 36 _ rfl (w.heap.size + 1) 0 rfl (stC B) _ XB.out.i.r0 Try.underlying36 rfl (yhs _) ?_))
  refine (HIab.out _).mono ?_
  rintro e w12 ⟨rfl, z⟩
  have ys := XA.out.i.bel.size
  have XAn := XA.out.next z XA.out.i.bel.size
  have XBn := XB.out.next z XA.out.i.bel.size
  have XCn := XC.out.next z XA.out.i.bel.size
  have XJn := XJ.out.next z XA.out.i.bel.size
  clear z ys XA XB XC XJ
  have XA := hid XAn
  clear XAn
  have XB := hid XBn
  clear XBn
  have XC := hid XCn
  clear XCn
  have XJ := hid XJn
  clear XJn
  go_wp2_with (first | ((with_reducible refine at_load (d := some 85) 36 ?_); refine wpList_load_g (by rfl) 36 _ rfl w5.heap.size 0 rfl (stC J) _ XJ.out.i.r0 Try.underlying36 rfl (yhs _) ?_) | ((with_reducible refine at_load (d := some 86) 36 ?_); refine wpList_load_g (by rfl) 36 _ rfl (w.heap.size + 1) 0 rfl (stC B) _ XB.out.i.r0 Try.underlying36 rfl (yhs _) ?_))
  refine (HIjb.out _).mono ?_
  rintro e w13 ⟨rfl, z⟩
  have ys := XA.out.i.bel.size
  have XAn := XA.out.next z XA.out.i.bel.size
  have XBn := XB.out.next z XA.out.i.bel.size
  have XCn := XC.out.next z XA.out.i.bel.size
  have XJn := XJ.out.next z XA.out.i.bel.size
  clear z ys XA XB XC XJ
  have XA := hid XAn
  clear XAn
  have XB := hid XBn
  clear XBn
  have XC := hid XCn
  clear XCn
  have XJ := hid XJn
  clear XJn
  go_wp2_with fail
  refine (HW.out _).mono ?_
  rintro e w14 ⟨rfl, z⟩
  have ys := XA.out.i.bel.size
  have XAn := XA.out.next z XA.out.i.bel.size
  have XBn := XB.out.next z XA.out.i.bel.size
  have XCn := XC.out.next z XA.out.i.bel.size
  have XJn := XJ.out.next z XA.out.i.bel.size
  clear z ys XA XB XC XJ
  have XA := hid XAn
  clear XAn
  have XB := hid XBn
  clear XBn
  have XC := hid XCn
  clear XCn
  have XJ := hid XJn
  clear XJn
  go_wp2_with fail
  go_ret
  exact ⟨rfl, XA.out.i.bel⟩
set_option maxHeartbeats 16000000 in
theorem ord_111 (A B C : St) (hA : StOk A) (hB : StOk B) (hC : StOk C) (ma : sMay A = true) (mb : sMay B = true) (iab : sIn A B = true) (ibc : sIn B C = true) (iac : sIn A C = true) (w : World) : Calls Try.prog 8 #[stV A, stV B, stV C] w fun e w' => e = .returned (.bool true) ∧ Below w.heap.size w w' := by
  have HMa : Hid (∀ W, Calls Try.prog 11 #[.agg (stC A).toArray] W fun e w' => e = .returned (.bool true) ∧ Below W.heap.size W w') := hid fun W => ma ▸ uMay_any A hA W
  have HIaa : Hid (∀ W, Calls Try.prog 19 #[.agg (stC A).toArray, .agg (stC A).toArray] W fun e w' => e = .returned (.bool true) ∧ Below W.heap.size W w') := hid fun W => ((sIn_self A).trans ma) ▸ uIn_any A A hA hA W
  have HIab : Hid (∀ W, Calls Try.prog 19 #[.agg (stC A).toArray, .agg (stC B).toArray] W fun e w' => e = .returned (.bool true) ∧ Below W.heap.size W w') := hid fun W => iab ▸ uIn_any A B hA hB W
  have HIbc : Hid (∀ W, Calls Try.prog 19 #[.agg (stC B).toArray, .agg (stC C).toArray] W fun e w' => e = .returned (.bool true) ∧ Below W.heap.size W w') := hid fun W => ibc ▸ uIn_any B C hB hC W
  have HIac : Hid (∀ W, Calls Try.prog 19 #[.agg (stC A).toArray, .agg (stC C).toArray] W fun e w' => e = .returned (.bool true) ∧ Below W.heap.size W w') := hid fun W => iac ▸ uIn_any A C hA hC W
  have HMb : Hid (∀ W, Calls Try.prog 11 #[.agg (stC B).toArray] W fun e w' => e = .returned (.bool true) ∧ Below W.heap.size W w') := hid fun W => mb ▸ uMay_any B hB W
  obtain ⟨jm, ja, jb⟩ := sJoin_up ma mb
  have hJ := sJoin_StOk hA hB
  have jc := sJoin_least iac ibc
  have jbb := sJoin_least iab ((sIn_self B).trans mb)
  have HJ : Hid (∀ W, Calls Try.prog 21 #[.agg (stC A).toArray, .agg (stC B).toArray] W fun e w' => e = .returned (.agg (stC (sJoin A B)).toArray) ∧ Below W.heap.size W w') := hid fun W => uJoin_any A B hA hB W
  obtain ⟨J, hj⟩ : ∃ J, sJoin A B = J := ⟨_, rfl⟩
  rw [hj] at HJ jm ja jb hJ jc jbb
  clear hj
  have HMj : Hid (∀ W, Calls Try.prog 11 #[.agg (stC J).toArray] W fun e w' => e = .returned (.bool true) ∧ Below W.heap.size W w') := hid fun W => jm ▸ uMay_any J hJ W
  have HIaj : Hid (∀ W, Calls Try.prog 19 #[.agg (stC A).toArray, .agg (stC J).toArray] W fun e w' => e = .returned (.bool true) ∧ Below W.heap.size W w') := hid fun W => ja ▸ uIn_any A J hA hJ W
  have HIbj : Hid (∀ W, Calls Try.prog 19 #[.agg (stC B).toArray, .agg (stC J).toArray] W fun e w' => e = .returned (.bool true) ∧ Below W.heap.size W w') := hid fun W => jb ▸ uIn_any B J hB hJ W
  have HIjc : Hid (∀ W, Calls Try.prog 19 #[.agg (stC J).toArray, .agg (stC C).toArray] W fun e w' => e = .returned (.bool true) ∧ Below W.heap.size W w') := hid fun W => jc ▸ uIn_any J C hJ hC W
  have HIjb : Hid (∀ W, Calls Try.prog 19 #[.agg (stC J).toArray, .agg (stC B).toArray] W fun e w' => e = .returned (.bool true) ∧ Below W.heap.size W w') := hid fun W => jbb ▸ uIn_any J B hJ hB W
  clear jm ja jb jc jbb
  have HW := hid wakes_any
  have ZS : ∀ w, (zeroValue 36).run Try.prog w = .ok (.agg (stC st0).toArray) w := (zero_of_info zs_info).1
  have BS : ∀ w, (Instr.build 36 #[]).run Try.prog w = .ok (.agg (stC st0).toArray) w := bld_s0
  have EQ := y_eq0
  have YN : ∀ (W : World) (S : St), Below w.heap.size w W → w.heap.size ≤ W.heap.size → RwT w.heap.size w ((W.alloc (.cells (stC st0).toArray 36)).setCells W.heap.size 0 (stC S)) W.heap.size 740 (stC S) := fun W S h hg => ynew_st S h hg
  have YT := ythere_st
  generalize st0 = Z0 at *
  replace YN := hid YN
  replace YT := hid YT
  replace EQ := hid EQ
  unfold stV
  obtain ⟨CA, hCA⟩ : ∃ CF, (stC A).toArray = CF := ⟨_, rfl⟩
  obtain ⟨CB, hCB⟩ : ∃ CF, (stC B).toArray = CF := ⟨_, rfl⟩
  obtain ⟨CC, hCC⟩ : ∃ CF, (stC C).toArray = CF := ⟨_, rfl⟩
  obtain ⟨XA, XB, XC⟩ := st_entry3 (w := w) A B C hCA hCB hCC
  rw [hCA, hCB, hCC]
  replace XA := hid XA
  replace XB := hid XB
  replace XC := hid XC
  clear hCA hCB hCC hA hB hC ma mb iab ibc iac hJ
  go_enter Try.func8, Try.ntmps8
  go_wp2_with (first | ((with_reducible refine at_load (d := some 9) 36 ?_); refine wpList_load_g (by rfl) 36 _ rfl w.heap.size 0 rfl (stC A) _ XA.out.i.r0 Try.underlying36 rfl (yhs _) ?_))
  refine (HMa.out _).mono ?_
  rintro e w1 ⟨rfl, z⟩
  have ys := (show w.heap.size ≤ w.heap.size from Nat.le_refl _)
  have XAn := XA.out.next z (by simp; omega)
  have XBn := XB.out.next z (by simp; omega)
  have XCn := XC.out.next z (by simp; omega)
  clear z ys XA XB XC
  have XA := hid XAn
  clear XAn
  have XB := hid XBn
  clear XBn
  have XC := hid XCn
  clear XCn
  go_wp2_with (first | ((with_reducible refine at_load (d := some 11) 36 ?_); refine wpList_load_g (by rfl) 36 _ rfl w.heap.size 0 rfl (stC A) _ XA.out.i.r0 Try.underlying36 rfl (yhs _) ?_) | ((with_reducible refine at_load (d := some 12) 36 ?_); refine wpList_load_g (by rfl) 36 _ rfl w.heap.size 0 rfl (stC A) _ XA.out.i.r0 Try.underlying36 rfl (yhs _) ?_))
  refine (HIaa.out _).mono ?_
  rintro e w2 ⟨rfl, z⟩
  have ys := XA.out.i.bel.size
  have XAn := XA.out.next z XA.out.i.bel.size
  have XBn := XB.out.next z XA.out.i.bel.size
  have XCn := XC.out.next z XA.out.i.bel.size
  clear z ys XA XB XC
  have XA := hid XAn
  clear XAn
  have XB := hid XBn
  clear XBn
  have XC := hid XCn
  clear XCn
  go_wp2_with (first | ((with_reducible refine at_load (d := some 16) 36 ?_); refine wpList_load_g (by rfl) 36 _ rfl w.heap.size 0 rfl (stC A) _ XA.out.i.r0 Try.underlying36 rfl (yhs _) ?_) | ((with_reducible refine at_load (d := some 17) 36 ?_); refine wpList_load_g (by rfl) 36 _ rfl (w.heap.size + 1) 0 rfl (stC B) _ XB.out.i.r0 Try.underlying36 rfl (yhs _) ?_))
  refine (HIab.out _).mono ?_
  rintro e w3 ⟨rfl, z⟩
  have ys := XA.out.i.bel.size
  have XAn := XA.out.next z XA.out.i.bel.size
  have XBn := XB.out.next z XA.out.i.bel.size
  have XCn := XC.out.next z XA.out.i.bel.size
  clear z ys XA XB XC
  have XA := hid XAn
  clear XAn
  have XB := hid XBn
  clear XBn
  have XC := hid XCn
  clear XCn
  go_wp2_with (first | ((with_reducible refine at_load (d := some 20) 36 ?_); refine wpList_load_g (by rfl) 36 _ rfl (w.heap.size + 1) 0 rfl (stC B) _ XB.out.i.r0 Try.underlying36 rfl (yhs _) ?_) | ((with_reducible refine at_load (d := some 21) 36 ?_); refine wpList_load_g (by rfl) 36 _ rfl (w.heap.size + 1 + 1) 0 rfl (stC C) _ XC.out.i.r0 Try.underlying36 rfl (yhs _) ?_))
  refine (HIbc.out _).mono ?_
  rintro e w4 ⟨rfl, z⟩
  have ys := XA.out.i.bel.size
  have XAn := XA.out.next z XA.out.i.bel.size
  have XBn := XB.out.next z XA.out.i.bel.size
  have XCn := XC.out.next z XA.out.i.bel.size
  clear z ys XA XB XC
  have XA := hid XAn
  clear XAn
  have XB := hid XBn
  clear XBn
  have XC := hid XCn
  clear XCn
  go_wp2_with (first | ((with_reducible refine at_load (d := some 25) 36 ?_); refine wpList_load_g (by rfl) 36 _ rfl w.heap.size 0 rfl (stC A) _ XA.out.i.r0 Try.underlying36 rfl (yhs _) ?_) | ((with_reducible refine at_load (d := some 26) 36 ?_); refine wpList_load_g (by rfl) 36 _ rfl (w.heap.size + 1 + 1) 0 rfl (stC C) _ XC.out.i.r0 Try.underlying36 rfl (yhs _) ?_))
  refine (HIac.out _).mono ?_
  rintro e w5 ⟨rfl, z⟩
  have ys := XA.out.i.bel.size
  have XAn := XA.out.next z XA.out.i.bel.size
  have XBn := XB.out.next z XA.out.i.bel.size
  have XCn := XC.out.next z XA.out.i.bel.size
  clear z ys XA XB XC
  have XA := hid XAn
  clear XAn
  have XB := hid XBn
  clear XBn
  have XC := hid XCn
  clear XCn
  go_wp2_with (first | ((with_reducible refine at_load (d := some 30) 36 ?_); refine wpList_load_g (by rfl) 36 _ rfl w.heap.size 0 rfl (stC A) _ XA.out.i.r0 Try.underlying36 rfl (yhs _) ?_) | ((with_reducible refine at_load (d := some 31) 36 ?_); refine wpList_load_g (by rfl) 36 _ rfl (w.heap.size + 1) 0 rfl (stC B) _ XB.out.i.r0 Try.underlying36 rfl (yhs _) ?_))
  refine (HJ.out _).mono ?_
  rintro e w6 ⟨rfl, z⟩
  have ys := XA.out.i.bel.size
  have XAn := XA.out.next z XA.out.i.bel.size
  have XBn := XB.out.next z XA.out.i.bel.size
  have XCn := XC.out.next z XA.out.i.bel.size
  clear z ys XA XB XC
  have XA := hid XAn
  clear XAn
  have XB := hid XBn
  clear XBn
  have XC := hid XCn
  clear XCn
  have BE := XA.out.i.bel
  have XJ := hid (YN.out w6 J BE BE.size)
  have TJ := hid (YT.out w6)
  have XAn := XA.out.made (o := .cells (stC Z0).toArray 36) (c := w6.heap.size) (m := 0) (vs := stC J) BE.size rfl
  clear XA
  have XA := hid XAn
  clear XAn
  have XBn := XB.out.made (o := .cells (stC Z0).toArray 36) (c := w6.heap.size) (m := 0) (vs := stC J) BE.size rfl
  clear XB
  have XB := hid XBn
  clear XBn
  have XCn := XC.out.made (o := .cells (stC Z0).toArray 36) (c := w6.heap.size) (m := 0) (vs := stC J) BE.size rfl
  clear XC
  have XC := hid XCn
  clear XCn
  have lJ := BE.size
  clear BE
  have lz : w.heap.size ≤ w6.heap.size := lJ
  go_wp2_with (first | ((with_reducible refine at_load (d := some 36) 36 ?_); refine wpList_load_g (by rfl) 36 _ rfl (w.heap.size + 1) 0 rfl (stC B) _ XB.out.i.r0 Try.underlying36 rfl (yhs _) ?_) | ((with_reducible refine at_store (x := .tmp 8) (y := .tmp 32) 36 ?_); refine wpList_store_st (.tmp 8) (.tmp 32) rfl rfl w6.heap.size J rfl rfl TJ.out ?_))
  refine (HMb.out _).mono ?_
  rintro e w7 ⟨rfl, z⟩
  have ys := XA.out.i.bel.size
  have XAn := XA.out.next z XA.out.i.bel.size
  have XBn := XB.out.next z XA.out.i.bel.size
  have XCn := XC.out.next z XA.out.i.bel.size
  have XJn := XJ.out.next z XA.out.i.bel.size
  clear z ys XA XB XC XJ
  have XA := hid XAn
  clear XAn
  have XB := hid XBn
  clear XBn
  have XC := hid XCn
  clear XCn
  have XJ := hid XJn
  clear XJn
  go_wp2_with (first | ((with_reducible refine at_load (d := some 52) 36 ?_); refine wpList_load_g (by rfl) 36 _ rfl w6.heap.size 0 rfl (stC J) _ XJ.out.i.r0 Try.underlying36 rfl (yhs _) ?_))
  refine (HMj.out _).mono ?_
  rintro e w8 ⟨rfl, z⟩
  have ys := XA.out.i.bel.size
  have XAn := XA.out.next z XA.out.i.bel.size
  have XBn := XB.out.next z XA.out.i.bel.size
  have XCn := XC.out.next z XA.out.i.bel.size
  have XJn := XJ.out.next z XA.out.i.bel.size
  clear z ys XA XB XC XJ
  have XA := hid XAn
  clear XAn
  have XB := hid XBn
  clear XBn
  have XC := hid XCn
  clear XCn
  have XJ := hid XJn
  clear XJn
  go_wp2_with (first | ((with_reducible refine at_load (d := some 56) 36 ?_); refine wpList_load_g (by rfl) 36 _ rfl w.heap.size 0 rfl (stC A) _ XA.out.i.r0 Try.underlying36 rfl (yhs _) ?_) | ((with_reducible refine at_load (d := some 57) 36 ?_); refine wpList_load_g (by rfl) 36 _ rfl w6.heap.size 0 rfl (stC J) _ XJ.out.i.r0 Try.underlying36 rfl (yhs _) ?_))
  refine (HIaj.out _).mono ?_
  rintro e w9 ⟨rfl, z⟩
  have ys := XA.out.i.bel.size
  have XAn := XA.out.next z XA.out.i.bel.size
  have XBn := XB.out.next z XA.out.i.bel.size
  have XCn := XC.out.next z XA.out.i.bel.size
  have XJn := XJ.out.next z XA.out.i.bel.size
  clear z ys XA XB XC XJ
  have XA := hid XAn
  clear XAn
  have XB := hid XBn
  clear XBn
  have XC := hid XCn
  clear XCn
  have XJ := hid XJn
  clear XJn
  go_wp2_with (first | ((with_reducible refine at_load (d := some 62) 36 ?_); refine wpList_load_g (by rfl) 36 _ rfl (w.heap.size + 1) 0 rfl (stC B) _ XB.out.i.r0 Try.underlying36 rfl (yhs _) ?_) | ((with_reducible refine at_load (d := some 63) 36 ?_); refine wpList_load_g (by rfl) 36 _ rfl w6.heap.size 0 rfl (stC J) _ XJ.out.i.r0 Try.underlying36 rfl (yhs _) ?_))
  refine (HIbj.out _).mono ?_
  rintro e w10 ⟨rfl, z⟩
  have ys := XA.out.i.bel.size
  have XAn := XA.out.next z XA.out.i.bel.size
  have XBn := XB.out.next z XA.out.i.bel.size
  have XCn := XC.out.next z XA.out.i.bel.size
  have XJn := XJ.out.next z XA.out.i.bel.size
  clear z ys XA XB XC XJ
  have XA := hid XAn
  clear XAn
  have XB := hid XBn
  clear XBn
  have XC := hid XCn
  clear XCn
  have XJ := hid XJn
  clear XJn
  go_wp2_with (first | ((with_reducible refine at_load (d := some 67) 36 ?_); refine wpList_load_g (by rfl) 36 _ rfl w.heap.size 0 rfl (stC A) _ XA.out.i.r0 Try.underlying36 rfl (yhs _) ?_) | ((with_reducible refine at_load (d := some 68) 36 ?_); refine wpList_load_g (by rfl) 36 _ rfl (w.heap.size + 1 + 1) 0 rfl (stC C) _ XC.out.i.r0 Try.underlying36 rfl (yhs _) ?_))
  refine (HIac.out _).mono ?_
  rintro e w11 ⟨rfl, z⟩
  have ys := XA.out.i.bel.size
  have XAn := XA.out.next z XA.out.i.bel.size
  have XBn := XB.out.next z XA.out.i.bel.size
  have XCn := XC.out.next z XA.out.i.bel.size
  have XJn := XJ.out.next z XA.out.i.bel.size
  clear z ys XA XB XC XJ
  have XA := hid XAn
  clear XAn
  have XB := hid XBn
  clear XBn
  have XC := hid XCn
  clear XCn
  have XJ := hid XJn
  clear XJn
  go_wp2_with (first | ((with_reducible refine at_load (d := some 71) 36 ?_); refine wpList_load_g (by rfl) 36 _ rfl (w.heap.size + 1) 0 rfl (stC B) _ XB.out.i.r0 Try.underlying36 rfl (yhs _) ?_) | ((with_reducible refine at_load (d := some 72) 36 ?_); refine wpList_load_g (by rfl) 36 _ rfl (w.heap.size + 1 + 1) 0 rfl (stC C) _ XC.out.i.r0 Try.underlying36 rfl (yhs _) ?_))
  refine (HIbc.out _).mono ?_
  rintro e w12 ⟨rfl, z⟩
  have ys := XA.out.i.bel.size
  have XAn := XA.out.next z XA.out.i.bel.size
  have XBn := XB.out.next z XA.out.i.bel.size
  have XCn := XC.out.next z XA.out.i.bel.size
  have XJn := XJ.out.next z XA.out.i.bel.size
  clear z ys XA XB XC XJ
  have XA := hid XAn
  clear XAn
  have XB := hid XBn
  clear XBn
  have XC := hid XCn
  clear XCn
  have XJ := hid XJn
  clear XJn
  go_wp2_with (first | ((with_reducible refine at_load (d := some 76) 36 ?_); refine wpList_load_g (by rfl) 36 _ rfl w6.heap.size 0 rfl (stC J) _ XJ.out.i.r0 Try.underlying36 rfl (yhs _) ?_) | ((with_reducible refine at_load (d := some 77) 36 ?_); refine wpList_load_g (by rfl) 36 _ rfl (w.heap.size + 1 + 1) 0 rfl (stC C) _ XC.out.i.r0 Try.underlying36 rfl (yhs _) ?_))
  refine (HIjc.out _).mono ?_
  rintro e w13 ⟨rfl, z⟩
  have ys := XA.out.i.bel.size
  have XAn := XA.out.next z XA.out.i.bel.size
  have XBn := XB.out.next z XA.out.i.bel.size
  have XCn := XC.out.next z XA.out.i.bel.size
  have XJn := XJ.out.next z XA.out.i.bel.size
  clear z ys XA XB XC XJ
  have XA := hid XAn
  clear XAn
  have XB := hid XBn
  clear XBn
  have XC := hid XCn
  clear XCn
  have XJ := hid XJn
  clear XJn
  go_wp2_with (first | ((with_reducible refine at_load (d := some 81) 36 ?_); refine wpList_load_g (by rfl) 36 _ rfl w.heap.size 0 rfl (stC A) _ XA.out.i.r0 Try.underlying36 rfl (yhs _) ?_) | ((with_reducible refine at_load (d := some 82) 36 ?_); refine wpList_load_g (by rfl) 36 _ rfl (w.heap.size + 1) 0 rfl (stC B) _ XB.out.i.r0 Try.underlying36 rfl (yhs _) ?_))
  refine (HIab.out _).mono ?_
  rintro e w14 ⟨rfl, z⟩
  have ys := XA.out.i.bel.size
  have XAn := XA.out.next z XA.out.i.bel.size
  have XBn := XB.out.next z XA.out.i.bel.size
  have XCn := XC.out.next z XA.out.i.bel.size
  have XJn := XJ.out.next z XA.out.i.bel.size
  clear z ys XA XB XC XJ
  have XA := hid XAn
  clear XAn
  have XB := hid XBn
  clear XBn
  have XC := hid XCn
  clear XCn
  have XJ := hid XJn
  clear XJn
  go_wp2_with (first | ((with_reducible refine at_load (d := some 85) 36 ?_); refine wpList_load_g (by rfl) 36 _ rfl w6.heap.size 0 rfl (stC J) _ XJ.out.i.r0 Try.underlying36 rfl (yhs _) ?_) | ((with_reducible refine at_load (d := some 86) 36 ?_); refine wpList_load_g (by rfl) 36 _ rfl (w.heap.size + 1) 0 rfl (stC B) _ XB.out.i.r0 Try.underlying36 rfl (yhs _) ?_))
  refine (HIjb.out _).mono ?_
  rintro e w15 ⟨rfl, z⟩
  have ys := XA.out.i.bel.size
  have XAn := XA.out.next z XA.out.i.bel.size
  have XBn := XB.out.next z XA.out.i.bel.size
  have XCn := XC.out.next z XA.out.i.bel.size
  have XJn := XJ.out.next z XA.out.i.bel.size
  clear z ys XA XB XC XJ
  have XA := hid XAn
  clear XAn
  have XB := hid XBn
  clear XBn
  have XC := hid XCn
  clear XCn
  have XJ := hid XJn
  clear XJn
  go_wp2_with fail
  refine (HW.out _).mono ?_
  rintro e w16 ⟨rfl, z⟩
  have ys := XA.out.i.bel.size
  have XAn := XA.out.next z XA.out.i.bel.size
  have XBn := XB.out.next z XA.out.i.bel.size
  have XCn := XC.out.next z XA.out.i.bel.size
  have XJn := XJ.out.next z XA.out.i.bel.size
  clear z ys XA XB XC XJ
  have XA := hid XAn
  clear XAn
  have XB := hid XBn
  clear XBn
  have XC := hid XCn
  clear XCn
  have XJ := hid XJn
  clear XJn
  go_wp2_with fail
  go_ret
  exact ⟨rfl, XA.out.i.bel⟩
theorem order_walk (A B C : St) (hA : StOk A) (hB : StOk B) (hC : StOk C) (w : World) : Calls Try.prog 8 #[stV A, stV B, stV C] w fun e w' => e = .returned (.bool true) ∧ Below w.heap.size w w' := by
  cases ma : sMay A
  · exact ord_a A B C hA hB hC ma (by cases e : sIn A B; rfl; rw [(sIn_may e).1] at ma; cases ma) w
  cases mb : sMay B
  · exact ord_b A B C hA hB hC ma mb (by cases e : sIn A B; rfl; rw [(sIn_may e).2] at mb; cases mb) w
  cases iab : sIn A B <;> cases ibc : sIn B C <;> cases iac : sIn A C
  · exact ord_000 A B C hA hB hC ma mb iab ibc iac w
  · exact ord_001 A B C hA hB hC ma mb iab ibc iac w
  · exact ord_010 A B C hA hB hC ma mb iab ibc iac w
  · exact ord_011 A B C hA hB hC ma mb iab ibc iac w
  · exact ord_100 A B C hA hB hC ma mb iab ibc iac w
  · exact ord_101 A B C hA hB hC ma mb iab ibc iac w
  · rw [sIn_trans iab ibc] at iac; cases iac
  · exact ord_111 A B C hA hB hC ma mb iab ibc iac w
end Go.Proofs.Ytcgokiahlldaoaa
