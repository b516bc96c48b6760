/-
  Contracts of Begin and of the laws' start; registers and values stored at a place. A value, a slot put into a view; zero views; the laws' start. What the laws' wakes comes to. The laws' wakes is true.
-/
import Derived.Test.YtodmikjpmcabiaaJStL
import Derived.Deep.MidRow
import Derived.BigRegion
namespace Go.Proofs.Ytodmikjpmcabiaa
set_option linter.unusedSimpArgs false
set_option linter.unusedVariables false
set_option maxRecDepth 100000
set_option maxRecDepth 100000
open Go.ChangeShapes Go.WideShapes Go.ChangeAt Go.RowKit Me

theorem wpList_store_rg {ops : Array Oper} {rest : List Oper} {op : Oper} {a : Act} {w : World} {Q : Exit → Act → World → Prop} (x y : Operand) (hgd : op.guard = none) (ho : op.op = .store 30 x y)
    (b o : Nat) (r : Rg) (hx : a.eval x = .pointer (some ⟨b, o, none⟩)) (hy : a.eval y = .agg (rC r).toArray) (ht : w.there b o 9)
    (h : wpList Try.prog ops Q rest (a.put op.dst undef) (w.setCells b o (rC r))) : wpList Try.prog ops Q (op :: rest) a w :=
  wpList_store_mid hgd 30 x y ho b o (rC r).toArray hx hy (by rw [List.size_toArray, rC_len]; exact ht) (by rw [List.size_toArray, rC_len]; exact yinfo30) (all_oneCell_toArray (one_rC r)) h
theorem one_vC (x : Vl) : ∀ v ∈ vC x, v.oneCell' = true := by
  intro v hv
  simp only [vC, List.mem_cons, List.not_mem_nil, or_false] at hv
  rcases hv with rfl | rfl | rfl | rfl <;> rfl
theorem wpList_store_vl {ops : Array Oper} {rest : List Oper} {op : Oper} {a : Act} {w : World} {Q : Exit → Act → World → Prop} (x y : Operand) (hgd : op.guard = none) (ho : op.op = .store 66 x y)
    (b o : Nat) (r : Vl) (hx : a.eval x = .pointer (some ⟨b, o, none⟩)) (hy : a.eval y = .agg (vC r).toArray) (ht : w.there b o 4)
    (h : wpList Try.prog ops Q rest (a.put op.dst undef) (w.setCells b o (vC r))) : wpList Try.prog ops Q (op :: rest) a w :=
  wpList_store_mid hgd 66 x y ho b o (vC r).toArray hx hy (by rw [List.size_toArray, vC_len]; exact ht) (by rw [List.size_toArray, vC_len]; exact yinfo41) (all_oneCell_toArray (one_vC r)) h
theorem one_bC (l : List Int) : ∀ v ∈ bC l, v.oneCell' = true := by
  intro v hv
  obtain ⟨x, _, rfl⟩ := List.mem_map.1 hv
  rfl
theorem one_sC (x : Sl) : ∀ v ∈ sC x, v.oneCell' = true := by
  intro v hv
  rcases List.mem_cons.1 hv with rfl | h
  · rfl
  · rcases List.mem_append.1 h with h | h
    · exact one_bC _ v h
    · exact one_vC _ v h
theorem one_vwC (V : Vw) : ∀ v ∈ vwC V, v.oneCell' = true := by
  intro v hv
  unfold vwC at hv
  rcases List.mem_append.1 hv with h | h
  · obtain ⟨k, _, h⟩ := List.mem_flatMap.1 h
    exact one_vC _ v h
  · rcases List.mem_append.1 h with h | h
    · obtain ⟨k, _, h⟩ := List.mem_flatMap.1 h
      exact one_sC _ v h
    · simp only [List.mem_cons, List.not_mem_nil, or_false] at h
      rw [h]; rfl
theorem wpList_store_vw {ops : Array Oper} {rest : List Oper} {op : Oper} {a : Act} {w : World} {Q : Exit → Act → World → Prop} (x y : Operand) (hgd : op.guard = none) (ho : op.op = .store 74 x y)
    (b : Nat) (V : Vw) (hV : FOk V.fr) (hx : a.eval x = .pointer (some ⟨b, 0, none⟩)) (hy : a.eval y = .agg (vwC V).toArray) (ht : w.there b 0 877)
    (h : wpList Try.prog ops Q rest (a.put op.dst undef) (w.setCells b 0 (vwC V))) : wpList Try.prog ops Q (op :: rest) a w :=
  wpList_store_mid hgd 74 x y ho b 0 (vwC V).toArray hx hy (by rw [List.size_toArray, vwC_len V hV]; exact ht) (by rw [List.size_toArray, vwC_len V hV]; exact yinfo55) (all_oneCell_toArray (one_vwC V)) h
theorem there_part {W : World} {b n m o : Nat} (h : W.there b 0 n) (hm : o + m ≤ n) : W.there b o m := fun j hj => by
  have := h (o + j) (by omega)
  rwa [Nat.zero_add] at this
def ctxR : Rg := ⟨2, false, 0, sc0, 0, 0⟩
def frmR : Rg := ⟨4, false, 0, sc0, 512, 512⟩
theorem begS_is : stC (putRg (putRg st0 1 ctxR) 10 frmR) = stC begS := stC_congr (fun k hk => by
    have : k = 0 ∨ k = 1 ∨ k = 2 ∨ k = 3 ∨ k = 4 ∨ k = 5 ∨ k = 6 ∨ k = 7 ∨ k = 8 ∨ k = 9 ∨ k = 10 := by omega
    rcases this with rfl | rfl | rfl | rfl | rfl | rfl | rfl | rfl | rfl | rfl | rfl <;> rfl) (fun k _ => rfl) rfl
theorem begS_ok : StOk begS := by
  refine ⟨fun k hk => ?_, fun k hk => r0_ok, by decide⟩
  have : k = 0 ∨ k = 1 ∨ k = 2 ∨ k = 3 ∨ k = 4 ∨ k = 5 ∨ k = 6 ∨ k = 7 ∨ k = 8 ∨ k = 9 ∨ k = 10 := by omega
  rcases this with rfl | rfl | rfl | rfl | rfl | rfl | rfl | rfl | rfl | rfl | rfl <;> (unfold ROk; decide)
theorem st0_ok : StOk st0 := ⟨fun _ _ => r0_ok, fun _ _ => r0_ok, by decide⟩
theorem ctxC : (rC ctxR).toArray = #[.int .u8 2, .bool false, .int .i64 0, .int .u64 0, .int .u64 0, .int .u64 0, .int .u64 0, .int .i64 0, .int .i64 0] := by kernel_rfl
theorem frmC : (rC frmR).toArray = #[.int .u8 4, .bool false, .int .i64 0, .int .u64 0, .int .u64 0, .int .u64 0, .int .u64 0, .int .i64 512, .int .i64 512] := by kernel_rfl
set_option maxHeartbeats 8000000 in
theorem uBegin_any (w : World) : Calls Try.prog 37 #[] w fun e w' => e = .returned (stV begS) ∧ Below w.heap.size w w' := by
  have ZF0 := (zero_of_info zs_info).1
  have ZF : ∀ w, (zeroValue 36).run Try.prog w = .ok (.agg (stC st0).toArray) w := ZF0
  have BL2 := bld_r_k 2
  have BL4 := bld_r_e 4 512 512
  have a := RwT.new (g := w.heap.size) (n := 740) (w := w) (W := w) (cs := stC st0) 36 (Below.refl _ _) (Nat.le_refl _) (by rw [stC_len])
  have b := RwT.new (g := w.heap.size) (n := 740) (w := w) (cs := stC st0) 36 a.i.bel (by simp) (by rw [stC_len])
  have I0 := a.alloc (by simp) (.cells (stC st0).toArray 36)
  have e1 : (w.alloc (.cells (stC st0).toArray 36)).heap.size = w.heap.size + 1 := by simp
  rw [e1] at b
  have b1 := b.putReg (k := 1) (r := ctxR) (by decide) (by omega)
  have b2 := b1.putReg (k := 10) (r := frmR) (by decide) (by omega)
  rw [begS_is] at b2
  have I1 := I0.apart (c := w.heap.size + 1) (o := 1 * 9) (vs := rC ctxR) (by omega) (by omega)
  have I2 := I1.apart (c := w.heap.size + 1) (o := 10 * 9) (vs := rC frmR) (by omega) (by omega)
  have I3 := I2.whole (vs := stC begS) (Nat.le_refl _) (stC_len _)
  have T1 := hid (there_part (o := 1 * 9) (m := 9) b.t (by decide))
  have T2 := hid (there_part (o := 10 * 9) (m := 9) b1.t (by decide))
  have his : Hid ((Try.prog.info? 36).map (·.size) = some (stC begS).length) := hid (by rw [stC_len]; exact yinfo36)
  replace b2 := hid b2
  replace I2 := hid I2
  replace I3 := hid I3
  clear a b b1 I0 I1 ZF0 e1
  unfold stV
  obtain ⟨CZ, hCZ⟩ : ∃ CF, (stC st0).toArray = CF := ⟨_, rfl⟩
  rw [hCZ] at ZF T1 T2 b2 I2 I3
  clear hCZ
  go_enter Try.func37, Try.ntmps37
  go_wp2_with (first | ((with_reducible refine at_store 30 ?_); refine wpList_store_rg _ _ rfl rfl (w.heap.size + 1) (1 * 9) ctxR rfl (congrArg Value.agg ctxC.symm) T1.out ?_) | ((with_reducible refine at_store 30 ?_); refine wpList_store_rg _ _ rfl rfl (w.heap.size + 1) (10 * 9) frmR rfl (congrArg Value.agg frmC.symm) T2.out ?_) | ((with_reducible refine at_load 36 ?_); refine wpList_load_g (by rfl) 36 _ rfl (w.heap.size + 1) (0) rfl (stC begS) _ b2.out.i.r0 Try.underlying36 rfl his.out ?_) | ((with_reducible refine at_store 36 ?_); refine wpList_store_st _ _ rfl rfl w.heap.size begS rfl rfl I2.out.t ?_))
  exact bodyPost_ret (row_res rfl _ _ w.heap.size 0 (stC begS) _ rfl I3.out.i.r0 Try.underlying36 rfl (by rw [stC_len]; exact yinfo36)) rfl ⟨rfl, I3.out.i.bel⟩
end Go.Proofs.Ytodmikjpmcabiaa

namespace Go.Proofs.Ytodmikjpmcabiaa
set_option linter.unusedSimpArgs false
set_option linter.unusedVariables false
set_option maxRecDepth 100000
set_option maxRecDepth 100000
open Go.ChangeShapes Go.WideShapes Go.ChangeAt Go.RowKit Me

theorem at_build {P : Program} {ops : Array Oper} {Q : Exit → Act → World → Prop} {rest : List Oper} {a : Act} {w : World} {d : Option Tmp} {x : Array (Nat × Operand)} {ty : TypeId} {ps : String} {af : Array Edge} {gd : Option (Tmp × Bool)} (T : TypeId)
    (h : wpList P ops Q (⟨d, .build T x, ty, ps, af, gd⟩ :: rest) a w) : wpList P ops Q (⟨d, .build T x, ty, ps, af, gd⟩ :: rest) a w := h
theorem wpList_val {P : Program} {ops : Array Oper} {rest : List Oper} {op : Oper} {a : Act} {w : World} {Q : Exit → Act → World → Prop} (v : Value) (hw : Region.wanted op (yielded ops a.tmps) = true) (hv : (execOp a.eval op).run P w = .ok (.value v) w)
    (h : wpList P ops Q rest (a.put op.dst v) w) : wpList P ops Q (op :: rest) a w := by
  rw [wpList, if_pos hw]
  refine .inl ?_
  simp only [Oper.wp, hv, Oper.upon]
  exact h
theorem exec_build {P : Program} {a : Act} {w : World} {d : Option Tmp} {ty t : TypeId} {ps : String} {af : Array Edge} {gd : Option (Tmp × Bool)} {x : Array (Nat × Operand)} {v : Value} (y : Array (Nat × Value)) (hx : (x.map fun (i, z) => (i, a.eval z)) = y) (h : (Instr.build t y).run P w = .ok v w) : (execOp a.eval ⟨d, .build t x, ty, ps, af, gd⟩).run P w = .ok (.value v) w := by
  subst hx
  unfold execOp
  simp [h, Sem.run_bind, Result.andThen]
def vw0 (p : Int) : Vw := ⟨fun _ => v0, f0, p⟩
def putVl (V : Vw) (k : Nat) (x : Vl) : Vw := ⟨fun i => if i = k then x else V.vs i, V.fr, V.p⟩
theorem vw_ext {W : World} {g : Nat} {V : Vw} (hV : FOk V.fr) (hr : ∀ i j, i < 11 → j < 4 → W.cell? ⟨g, i * 4 + j, none⟩ = (vC (V.vs i))[j]?) (hs : ∀ i j, i < 64 → j < 13 → W.cell? ⟨g, 44 + (i * 13 + j), none⟩ = (sC (V.fr i))[j]?)
    (hp : W.cell? ⟨g, 876, none⟩ = some (.int .i64 V.p)) : W.rangeAt g 0 (vwC V) := by
  intro j v hv
  have hj : j < 877 := by have := (List.getElem?_eq_some_iff.1 hv).1; rwa [vwC_len V hV] at this
  rw [Nat.zero_add]
  by_cases h1 : j < 44
  · have hd : j / 4 * 4 + j % 4 = j := by omega
    have hi : j / 4 < 11 := by omega
    have hm : j % 4 < 4 := by omega
    generalize j / 4 = i at *
    generalize j % 4 = r at *
    subst hd
    rw [vwC_val V i r hi hm] at hv
    rw [hr i r hi hm]
    exact hv
  · by_cases h2 : j < 876
    · obtain ⟨m, rfl⟩ : ∃ m, j = 44 + m := ⟨j - 44, by omega⟩
      have hd : m / 13 * 13 + m % 13 = m := by omega
      have hi : m / 13 < 64 := by omega
      have hm : m % 13 < 13 := by omega
      generalize m / 13 = i at *
      generalize m % 13 = r at *
      subst hd
      rw [vwC_slot V hV i r hi hm] at hv
      rw [hs i r hi hm]
      exact hv
    · obtain rfl : j = 876 := by omega
      rw [vwC_pkt V hV] at hv
      rw [hp]
      exact hv
theorem vw_cell_v {W : World} {g : Nat} {V : Vw} (hr : W.rangeAt g 0 (vwC V)) (i j : Nat) (hi : i < 11) (hj : j < 4) : W.cell? ⟨g, i * 4 + j, none⟩ = (vC (V.vs i))[j]? := by
  have hl : j < (vC (V.vs i)).length := by rw [vC_len]; exact hj
  rw [range_val hr i hi j _ (List.getElem?_eq_getElem hl), List.getElem?_eq_getElem hl]
theorem vw_cell_s {W : World} {g : Nat} {V : Vw} (hV : FOk V.fr) (hr : W.rangeAt g 0 (vwC V)) (i j : Nat) (hi : i < 64) (hj : j < 13) : W.cell? ⟨g, 44 + (i * 13 + j), none⟩ = (sC (V.fr i))[j]? := by
  have hl : j < (sC (V.fr i)).length := by rw [sC_len (hV i hi)]; exact hj
  rw [← Nat.add_assoc, range_fslot hV hr i hi j _ (List.getElem?_eq_getElem hl), List.getElem?_eq_getElem hl]
theorem val_put {W : World} {g k : Nat} {V : Vw} {x : Vl} (hV : FOk V.fr) (hk : k < 11) (hr : W.rangeAt g 0 (vwC V)) (ht : W.there g 0 877) : (W.setCells g (k * 4) (vC x)).rangeAt g 0 (vwC (putVl V k x)) := by
  refine vw_ext (V := putVl V k x) hV (fun i j hi hj => ?_) (fun i j hi hj => ?_) ?_
  · by_cases e : i = k
    · subst e
      have : (putVl V i x).vs i = x := by simp [putVl]
      rw [this]
      exact cell_in ht (by rw [vC_len]; omega) j (by rw [vC_len]; exact hj)
    · have : (putVl V k x).vs i = V.vs i := by simp [putVl, e]
      rw [this, cell_out (by rw [vC_len]; omega)]
      exact vw_cell_v hr i j hi hj
  · rw [cell_out (by rw [vC_len]; omega)]
    exact vw_cell_s hV hr i j hi hj
  · rw [cell_out (by rw [vC_len]; omega)]
    have := range_vpkt hV hr
    exact this
theorem RwT.putVal {g b k : Nat} {w W : World} {V : Vw} {x : Vl} (h : RwT g w W b 877 (vwC V)) (hV : FOk V.fr) (hk : k < 11) (hg : g ≤ b) : RwT g w (W.setCells b (k * 4) (vC x)) b 877 (vwC (putVl V k x)) :=
  ⟨⟨below_setRow b hg _ _ W h.i.bel, by rw [size_setRow]; exact h.i.sz, val_put hV hk h.i.r0 h.t⟩, World.there_setCells h.t b _ _⟩
theorem zv_info : (Try.prog.info? 74).map (fun i => (i.zero, i.size)) = some (some (vwV (vw0 0)), 877) := by kernel_rfl
theorem bld_v60 (W : World) : (Instr.build 74 #[(2, .int .i64 60)]).run Try.prog W = .ok (vwV (vw0 60)) W := by kernel_rfl
def ctxV : Vl := ⟨2, 0, 0, 0⟩
def frmV : Vl := ⟨4, 0, 0, 512⟩
/-- A view that Begin holds. -/
def staV : Vw := putVl (putVl (vw0 60) 1 ctxV) 10 frmV
theorem staV_fr : FOk staV.fr := f0_ok
theorem staV_ok : VwOk staV := by
  refine ⟨fun k hk => ?_, f0_ok, by decide⟩
  have : k = 0 ∨ k = 1 ∨ k = 2 ∨ k = 3 ∨ k = 4 ∨ k = 5 ∨ k = 6 ∨ k = 7 ∨ k = 8 ∨ k = 9 ∨ k = 10 := by omega
  rcases this with rfl | rfl | rfl | rfl | rfl | rfl | rfl | rfl | rfl | rfl | rfl <;> (unfold VOk; decide)
theorem bld_k1 (k : Int) (W : World) : (Instr.build 66 #[(0, .int .u8 k)]).run Try.prog W = .ok (.agg #[.int .u8 k, .int .i64 0, .int .u64 0, .int .i64 0]) W := by kernel_rfl
theorem ctxVC : (vC ctxV).toArray = #[.int .u8 2, .int .i64 0, .int .u64 0, .int .i64 0] := by kernel_rfl
theorem frmVC : (vC frmV).toArray = #[.int .u8 4, .int .i64 0, .int .u64 0, .int .i64 512] := by kernel_rfl
set_option maxHeartbeats 8000000 in
theorem start_any (w : World) : Calls Try.prog 38 #[] w fun e w' => e = .returned (vwV staV) ∧ Below w.heap.size w w' := by
  have ZF0 := (zero_of_info zv_info).1
  have ZF : ∀ w, (zeroValue 74).run Try.prog w = .ok (.agg (vwC (vw0 0)).toArray) w := ZF0
  have BS : ∀ w, (Instr.build 74 #[(2, .int .i64 60)]).run Try.prog w = .ok (.agg (vwC (vw0 60)).toArray) w := bld_v60
  have HB := hid BS
  clear BS
  have BL2 := bld_k1 2
  have BL4 := bld_v03 4 512
  have hl0 : (vwC (vw0 0)).length = 877 := vwC_len _ f0_ok
  have hl6 : (vwC (vw0 60)).length = 877 := vwC_len _ f0_ok
  have a := RwT.new (g := w.heap.size) (n := 877) (w := w) (W := w) (cs := vwC (vw0 0)) 74 (Below.refl _ _) (Nat.le_refl _) hl0.symm
  have b0 := RwT.new (g := w.heap.size) (n := 877) (w := w) (cs := vwC (vw0 0)) 74 a.i.bel (by simp) hl0.symm
  have I00 := a.alloc (by simp) (.cells (vwC (vw0 0)).toArray 74)
  have e1 : (w.alloc (.cells (vwC (vw0 0)).toArray 74)).heap.size = w.heap.size + 1 := by simp
  rw [e1] at b0
  have b := b0.whole (vs := vwC (vw0 60)) (by omega) hl6
  have I0 := I00.apart (c := w.heap.size + 1) (o := 0) (vs := vwC (vw0 60)) (by omega) (by omega)
  have T0 := hid b0.t
  have b1 := b.putVal (k := 1) (x := ctxV) f0_ok (by decide) (by omega)
  have b2 := b1.putVal (k := 10) (x := frmV) f0_ok (by decide) (by omega)
  have I1 := I0.apart (c := w.heap.size + 1) (o := 1 * 4) (vs := vC ctxV) (by omega) (by omega)
  have I2 := I1.apart (c := w.heap.size + 1) (o := 10 * 4) (vs := vC frmV) (by omega) (by omega)
  have hls : (vwC staV).length = 877 := vwC_len _ staV_fr
  have I3 := I2.whole (vs := vwC staV) (Nat.le_refl _) hls
  have T1 := hid (there_part (o := 1 * 4) (m := 4) b.t (by decide))
  have T2 := hid (there_part (o := 10 * 4) (m := 4) b1.t (by decide))
  have his : Hid ((Try.prog.info? 74).map (·.size) = some (vwC staV).length) := hid (by rw [hls]; exact yinfo55)
  have b3 : Hid (RwT w.heap.size w _ _ _ (vwC staV)) := hid b2
  replace I2 := hid I2
  replace I3 := hid I3
  clear a b b0 b1 b2 I0 I00 I1 ZF0 e1 hl0 hl6 hls
  unfold vwV
  obtain ⟨CZ, hCZ⟩ : ∃ CF, (vwC (vw0 0)).toArray = CF := ⟨_, rfl⟩
  rw [hCZ] at ZF T0 T1 T2 b3 I2 I3
  clear hCZ
  go_enter Try.func38, Try.ntmps38
  go_wp2_with (first | ((with_reducible refine at_build 74 ?_); refine wpList_val (.agg (vwC (vw0 60)).toArray) ?a1 ?a2 ?a3; (case a1 => rfl); (case a2 => exact exec_build #[(2, .int .i64 60)] (by simp [Act.eval]) (HB.out _))) | ((with_reducible refine at_store 74 ?_); refine wpList_store_vw (.tmp 1) (.tmp 2) ?b2x1 ?b2x2 (w.heap.size + 1) (vw0 60) f0_ok ?b2x3 ?b2x4 ?b2x5 ?b2x6; (case b2x1 => rfl); (case b2x2 => rfl); (case b2x3 => rfl); (case b2x4 => exact rfl); (case b2x5 => exact T0.out)) | ((with_reducible refine at_store 66 ?_); refine wpList_store_vl (.tmp 5) (.tmp 3) ?b3x1 ?b3x2 (w.heap.size + 1) (1 * 4) ctxV ?b3x3 ?b3x4 ?b3x5 ?b3x6; (case b3x1 => rfl); (case b3x2 => rfl); (case b3x3 => rfl); (case b3x4 => exact congrArg Value.agg ctxVC.symm); (case b3x5 => exact T1.out)) | ((with_reducible refine at_store 66 ?_); refine wpList_store_vl (.tmp 8) (.tmp 6) ?b4x1 ?b4x2 (w.heap.size + 1) (10 * 4) frmV ?b4x3 ?b4x4 ?b4x5 ?b4x6; (case b4x1 => rfl); (case b4x2 => rfl); (case b4x3 => rfl); (case b4x4 => exact congrArg Value.agg frmVC.symm); (case b4x5 => exact T2.out)) | ((with_reducible refine at_load 74 ?_); refine wpList_load_g (by rfl) 74 _ rfl (w.heap.size + 1) (0) rfl (vwC staV) _ b3.out.i.r0 Try.underlying74 rfl his.out ?_) | ((with_reducible refine at_store 74 ?_); refine wpList_store_vw (.tmp 0) (.tmp 9) ?b6x1 ?b6x2 w.heap.size staV staV_fr ?b6x3 ?b6x4 ?b6x5 ?b6x6; (case b6x1 => rfl); (case b6x2 => rfl); (case b6x3 => rfl); (case b6x4 => exact rfl); (case b6x5 => exact I2.out.t)))
  exact bodyPost_ret (row_res rfl _ _ w.heap.size 0 (vwC staV) _ rfl I3.out.i.r0 Try.underlying74 rfl his.out) rfl ⟨rfl, I3.out.i.bel⟩
end Go.Proofs.Ytodmikjpmcabiaa

namespace Go.Proofs.Ytodmikjpmcabiaa
set_option linter.unusedSimpArgs false
set_option linter.unusedVariables false
set_option maxRecDepth 100000
set_option maxRecDepth 100000
open Go.ChangeShapes Go.WideShapes Go.ChangeAt Go.RowKit Me

def cel1 : Rg := ⟨6, false, 1, sc0, 0, 0⟩
def num0 : Rg := ⟨1, false, 0, sc0, 0, 0⟩
def celS : St := putRg st0 0 cel1
def numS : St := putRg st0 0 num0
def sta2 : Vw := putVl staV 10 ⟨4, 0, 0, 504⟩
theorem cel1C : (rC cel1).toArray = #[.int .u8 6, .bool false, .int .i64 1, .int .u64 0, .int .u64 0, .int .u64 0, .int .u64 0, .int .i64 0, .int .i64 0] := by kernel_rfl
theorem num0C : (rC num0).toArray = #[.int .u8 1, .bool false, .int .i64 0, .int .u64 0, .int .u64 0, .int .u64 0, .int .u64 0, .int .i64 0, .int .i64 0] := by kernel_rfl
theorem zm1C : rC (zm 1) = [.int .u8 7, .bool false, .int .i64 1, .int .u64 0, .int .u64 0, .int .u64 0, .int .u64 0, .int .i64 0, .int .i64 0] := by kernel_rfl
theorem celS_ok : StOk celS := ⟨fun k hk => by unfold celS putRg; dsimp only; split <;> (first | exact r0_ok | (unfold ROk cel1; decide)), fun k hk => r0_ok, by decide⟩
theorem numS_ok : StOk numS := ⟨fun k hk => by unfold numS putRg; dsimp only; split <;> (first | exact r0_ok | (unfold ROk num0; decide)), fun k hk => r0_ok, by decide⟩
theorem sta2_ok : VwOk sta2 := by
  refine ⟨fun k hk => ?_, f0_ok, by decide⟩
  have : k = 0 ∨ k = 1 ∨ k = 2 ∨ k = 3 ∨ k = 4 ∨ k = 5 ∨ k = 6 ∨ k = 7 ∨ k = 8 ∨ k = 9 ∨ k = 10 := by omega
  rcases this with rfl | rfl | rfl | rfl | rfl | rfl | rfl | rfl | rfl | rfl | rfl <;> (unfold VOk; decide)
theorem hold1 : sHolds begS staV = true := by decide +kernel
theorem hold2 : sHolds begS sta2 = false := by decide +kernel
theorem in1 : sIn begS st0 = true := by decide +kernel
theorem in2 : sIn st0 begS = false := by decide +kernel
theorem mayC : sMay celS = true := by decide +kernel
theorem joinC : (sJoin celS numS).rg 0 = zm 1 := by decide +kernel
end Go.Proofs.Ytodmikjpmcabiaa

namespace Go.Proofs.Ytodmikjpmcabiaa
set_option linter.unusedSimpArgs false
set_option linter.unusedVariables false
set_option maxRecDepth 100000
set_option maxRecDepth 100000
open Go.ChangeShapes Go.WideShapes Go.ChangeAt Go.RowKit Me

theorem yhs (S : St) : (Try.prog.info? 36).map (·.size) = some (stC S).length := by rw [stC_len]; exact yinfo36
theorem yhv (V : Vw) (h : FOk V.fr) : (Try.prog.info? 74).map (·.size) = some (vwC V).length := by rw [vwC_len V h]; exact yinfo55
theorem ynew_st {g : Nat} {w W : World} (S : St) (h : Below g w W) (hg : g ≤ W.heap.size) : RwT g w ((W.alloc (.cells (stC st0).toArray 36)).setCells W.heap.size 0 (stC S)) W.heap.size 740 (stC S) :=
  (RwT.new (n := 740) 36 h hg (stC_len st0).symm).whole hg (stC_len S)
theorem ythere_st (W : World) : (W.alloc (.cells (stC st0).toArray 36)).there W.heap.size 0 740 := there_row _ _ _ _ (by rw [List.size_toArray, stC_len])
theorem ynew_vw {g : Nat} {w W : World} (V : Vw) (hV : FOk V.fr) (h : Below g w W) (hg : g ≤ W.heap.size) : RwT g w ((W.alloc (.cells (vwC (vw0 0)).toArray 74)).setCells W.heap.size 0 (vwC V)) W.heap.size 877 (vwC V) :=
  (RwT.new (n := 877) 74 h hg (vwC_len (vw0 0) f0_ok).symm).whole hg (vwC_len V hV)
theorem ythere_vw (W : World) : (W.alloc (.cells (vwC (vw0 0)).toArray 74)).there W.heap.size 0 877 := there_row _ _ _ _ (by rw [List.size_toArray, vwC_len (vw0 0) f0_ok])
/-- Another block that is made and stored into leaves this one. -/
theorem RwT.made {g b n c m : Nat} {w W : World} {cs vs : List Value} {o : Obj} (h : RwT g w W b n cs) (hg : g ≤ W.heap.size) (hc : c = W.heap.size) : RwT g w ((W.alloc o).setCells c m vs) b n cs := by
  have hz := h.i.sz
  subst hc
  exact (h.alloc hg o).apart (by omega) hg
theorem off_put {W : World} {g k : Nat} {V : Vw} {o : Int} (hV : FOk V.fr) (hk : k < 11) (hr : W.rangeAt g 0 (vwC V)) (ht : W.there g 0 877) : (W.setCells g (k * 4 + 3) [.int .i64 o]).rangeAt g 0 (vwC (putVl V k ⟨(V.vs k).k, (V.vs k).m, (V.vs k).n, o⟩)) := by
  refine vw_ext (V := putVl V k ⟨(V.vs k).k, (V.vs k).m, (V.vs k).n, o⟩) hV (fun i j hi hj => ?_) (fun i j hi hj => ?_) ?_
  · by_cases e : i = k
    · subst e
      have : (putVl V i ⟨(V.vs i).k, (V.vs i).m, (V.vs i).n, o⟩).vs i = ⟨(V.vs i).k, (V.vs i).m, (V.vs i).n, o⟩ := by simp [putVl]
      rw [this]
      by_cases j3 : j = 3
      · subst j3
        exact cell_in (vs := [.int .i64 o]) (o := i * 4 + 3) ht (by simp; omega) 0 (by simp)
      · rw [cell_out (by simp; omega), vw_cell_v hr i j hi hj]
        have : j = 0 ∨ j = 1 ∨ j = 2 := by omega
        rcases this with rfl | rfl | rfl <;> rfl
    · have : (putVl V k ⟨(V.vs k).k, (V.vs k).m, (V.vs k).n, o⟩).vs i = V.vs i := by simp [putVl, e]
      rw [this, cell_out (by simp; omega)]
      exact vw_cell_v hr i j hi hj
  · rw [cell_out (by simp; omega)]
    exact vw_cell_s hV hr i j hi hj
  · rw [cell_out (by simp; omega)]
    have := range_vpkt hV hr
    exact this
theorem RwT.putOff {g b k : Nat} {w W : World} {V : Vw} {o : Int} (h : RwT g w W b 877 (vwC V)) (hV : FOk V.fr) (hk : k < 11) (hg : g ≤ b) : RwT g w (W.setCells b (k * 4 + 3) [.int .i64 o]) b 877 (vwC (putVl V k ⟨(V.vs k).k, (V.vs k).m, (V.vs k).n, o⟩)) :=
  ⟨⟨below_setRow b hg _ _ W h.i.bel, by rw [size_setRow]; exact h.i.sz, off_put hV hk h.i.r0 h.t⟩, World.there_setCells h.t b _ _⟩
set_option maxHeartbeats 16000000 in
theorem wakes_any (w : World) : Calls Try.prog 9 #[] w fun e w' => e = .returned (.bool true) ∧ Below w.heap.size w w' := by
  have ZS : ∀ w, (zeroValue 36).run Try.prog w = .ok (.agg (stC st0).toArray) w := (zero_of_info zs_info).1
  have ZV : ∀ w, (zeroValue 74).run Try.prog w = .ok (.agg (vwC (vw0 0)).toArray) w := (zero_of_info zv_info).1
  have BS : ∀ w, (Instr.build 36 #[]).run Try.prog w = .ok (.agg (stC st0).toArray) w := bld_s0
  have HB : Hid (∀ W, Calls Try.prog 37 #[] W fun e w' => e = .returned (.agg (stC begS).toArray) ∧ Below W.heap.size W w') := fun W => uBegin_any W
  have HT : Hid (∀ W, Calls Try.prog 38 #[] W fun e w' => e = .returned (.agg (vwC staV).toArray) ∧ Below W.heap.size W w') := fun W => start_any W
  have HH1 : Hid (∀ W, Calls Try.prog 39 #[.agg (stC begS).toArray, .agg (vwC staV).toArray] W fun e w' => e = .returned (.bool true) ∧ Below W.heap.size W w') := fun W => hold1 ▸ uHolds_any begS staV begS_ok staV_ok W
  have HH2 : Hid (∀ W, Calls Try.prog 39 #[.agg (stC begS).toArray, .agg (vwC sta2).toArray] W fun e w' => e = .returned (.bool false) ∧ Below W.heap.size W w') := fun W => hold2 ▸ uHolds_any begS sta2 begS_ok sta2_ok W
  have HI1 : Hid (∀ W, Calls Try.prog 40 #[.agg (stC begS).toArray, .agg (stC st0).toArray] W fun e w' => e = .returned (.bool true) ∧ Below W.heap.size W w') := fun W => in1 ▸ uIn_any begS st0 begS_ok st0_ok W
  have HI2 : Hid (∀ W, Calls Try.prog 40 #[.agg (stC st0).toArray, .agg (stC begS).toArray] W fun e w' => e = .returned (.bool false) ∧ Below W.heap.size W w') := fun W => in2 ▸ uIn_any st0 begS st0_ok begS_ok W
  have HM : Hid (∀ W, Calls Try.prog 31 #[.agg (stC celS).toArray] W fun e w' => e = .returned (.bool true) ∧ Below W.heap.size W w') := fun W => mayC ▸ uMay_any celS celS_ok W
  have HJ : Hid (∀ W, Calls Try.prog 7 #[.agg (stC celS).toArray, .agg (stC numS).toArray] W fun e w' => e = .returned (.agg (stC (sJoin celS numS)).toArray) ∧ Below W.heap.size W w') := fun W => uJoin_any celS numS celS_ok numS_ok W
  have hj := joinC
  obtain ⟨JS, hJS⟩ : ∃ JS, sJoin celS numS = JS := ⟨_, rfl⟩
  rw [hJS] at HJ hj
  clear hJS
  replace hj := hid hj
  go_enter Try.func9, Try.ntmps9
  go_wp2_with fail
  refine (HB.out _).mono ?_
  rintro e w1 ⟨rfl, z1⟩
  have A1 := hid (ynew_st begS (below_next (Below.refl w.heap.size w) z1) z1.size)
  have T1 := hid (ythere_st w1)
  have h1 := z1.size
  clear z1
  go_wp2_with ((with_reducible refine at_store (x := .tmp 1) (y := .tmp 7) 36 ?_); refine wpList_store_st (.tmp 1) (.tmp 7) rfl rfl w1.heap.size begS rfl rfl T1.out ?_)
  refine (HT.out _).mono ?_
  rintro e w2 ⟨rfl, z⟩
  have A2 := hid (A1.out.next z A1.out.i.bel.size)
  have B2 := A2.out.i.bel
  have h2 := B2.size
  have h12 : w1.heap.size < w2.heap.size := A2.out.i.sz
  have V2 := hid (ynew_vw staV staV_fr B2 h2)
  have A3 := hid (A2.out.made (o := .cells (vwC (vw0 0)).toArray 74) (c := w2.heap.size) (m := 0) (vs := vwC staV) h2 rfl)
  have T2 := hid (ythere_vw w2)
  clear z A1 T1 B2
  go_wp2_with (first | ((with_reducible refine at_store (x := .tmp 2) (y := .tmp 8) 74 ?_); refine wpList_store_vw (.tmp 2) (.tmp 8) rfl rfl w2.heap.size staV staV_fr rfl rfl T2.out ?_) | ((with_reducible refine at_load (d := some 9) 36 ?_); refine wpList_load_g (by rfl) 36 _ rfl w1.heap.size (0) rfl (stC begS) _ A3.out.i.r0 Try.underlying36 rfl (yhs _) ?_) | ((with_reducible refine at_load (d := some 10) 74 ?_); refine wpList_load_g (by rfl) 74 _ rfl w2.heap.size (0) rfl (vwC staV) _ V2.out.i.r0 Try.underlying74 rfl (yhv _ staV_fr) ?_))
  refine (HH1.out _).mono ?_
  rintro e w3 ⟨rfl, z⟩
  have A4 := hid (A3.out.next z A3.out.i.bel.size)
  have V4 := hid (V2.out.next z A3.out.i.bel.size)
  clear z A3 V2 A2 T2 HH1 HB HT
  go_wp2_with (first | ((with_reducible refine at_load (d := some 13) 36 ?_); refine wpList_load_g (by rfl) 36 _ rfl w1.heap.size (0) rfl (stC begS) _ A4.out.i.r0 Try.underlying36 rfl (yhs _) ?_))
  refine (HI1.out _).mono ?_
  rintro e w4 ⟨rfl, z⟩
  have A5 := hid (A4.out.next z A4.out.i.bel.size)
  have V5 := hid (V4.out.next z A4.out.i.bel.size)
  clear z A4 V4 HI1
  go_wp2_with (first | ((with_reducible refine at_load (d := some 19) 36 ?_); refine wpList_load_g (by rfl) 36 _ rfl w1.heap.size (0) rfl (stC begS) _ A5.out.i.r0 Try.underlying36 rfl (yhs _) ?_))
  refine (HI2.out _).mono ?_
  rintro e w5 ⟨rfl, z⟩
  have A6 := hid (A5.out.next z A5.out.i.bel.size)
  have V6 := hid (V5.out.next z A5.out.i.bel.size)
  clear z A5 V5 HI2
  have hsz : w.heap.size ≤ w5.heap.size := A6.out.i.bel.size
  have q43 : w5.cell? ⟨w2.heap.size, 43, none⟩ = some (.int .i64 512) := (range_val V6.out.i.r0 10 (by decide)) 3 _ rfl
  have f43 : w5.frozen? ⟨w2.heap.size, 43, none⟩ = false := by have := (V6.out.t 43 (by decide)).2; rwa [Nat.zero_add] at this
  have l43 := V6.out.i.sz
  have V7 : RwT w.heap.size w (w5.setCell ⟨w2.heap.size, 43, none⟩ (.int .i64 504)) w2.heap.size 877 (vwC sta2) := V6.out.putOff (k := 10) (o := 504) staV_fr (by decide) h2
  have A7 : RwT w.heap.size w (w5.setCell ⟨w2.heap.size, 43, none⟩ (.int .i64 504)) w1.heap.size 740 (stC begS) := A6.out.apart (c := w2.heap.size) (o := 43) (vs := [.int .i64 504]) (by omega) h2
  have hz6 : (w5.setCell ⟨w2.heap.size, 43, none⟩ (.int .i64 504)).heap.size = w5.heap.size := by simp
  have hg6 : w.heap.size ≤ (w5.setCell ⟨w2.heap.size, 43, none⟩ (.int .i64 504)).heap.size := by rw [hz6]; exact hsz
  have C0 := RwT.new (n := 740) (cs := stC st0) 36 V7.i.bel hg6 (stC_len st0).symm
  have hz7 : ((w5.setCell ⟨w2.heap.size, 43, none⟩ (.int .i64 504)).alloc (.cells (stC st0).toArray 36)).heap.size = w5.heap.size + 1 := by simp
  have hg7 : w.heap.size ≤ ((w5.setCell ⟨w2.heap.size, 43, none⟩ (.int .i64 504)).alloc (.cells (stC st0).toArray 36)).heap.size := by rw [hz7]; omega
  have D0 := RwT.new (n := 740) (cs := stC st0) 36 C0.i.bel hg7 (stC_len st0).symm
  have C1 := C0.alloc hg7 (.cells (stC st0).toArray 36)
  rw [hz6] at C1
  rw [hz7] at D0
  have A8 := (A7.alloc hg6 (.cells (stC st0).toArray 36)).alloc hg7 (.cells (stC st0).toArray 36)
  have V8 := (V7.alloc hg6 (.cells (stC st0).toArray 36)).alloc hg7 (.cells (stC st0).toArray 36)
  have C2 := C1.whole (vs := stC st0) hsz (stC_len _)
  have D2 := D0.apart (c := w5.heap.size) (o := 0) (vs := stC st0) (by omega) hsz
  have l5A := A6.out.i.sz
  have l5V := V6.out.i.sz
  have A9 := A8.apart (c := w5.heap.size) (o := 0) (vs := stC st0) (by omega) hsz
  have V9 := V8.apart (c := w5.heap.size) (o := 0) (vs := stC st0) (by omega) hsz
  have D3 := D2.whole (vs := stC st0) (by omega) (stC_len _)
  have C3 := C2.apart (c := w5.heap.size + 1) (o := 0) (vs := stC st0) (by omega) (by omega)
  have A10 := A9.apart (c := w5.heap.size + 1) (o := 0) (vs := stC st0) (by omega) (by omega)
  have V10 := V9.apart (c := w5.heap.size + 1) (o := 0) (vs := stC st0) (by omega) (by omega)
  have C4 := C3.putReg (k := 0) (r := cel1) (by decide) hsz
  have D4 := D3.apart (c := w5.heap.size) (o := 0 * 9) (vs := rC cel1) (by omega) hsz
  have A11 := A10.apart (c := w5.heap.size) (o := 0 * 9) (vs := rC cel1) (by omega) hsz
  have V11 := V10.apart (c := w5.heap.size) (o := 0 * 9) (vs := rC cel1) (by omega) hsz
  have D5 := D4.putReg (k := 0) (r := num0) (by decide) (by omega)
  have C5 := C4.apart (c := w5.heap.size + 1) (o := 0 * 9) (vs := rC num0) (by omega) (by omega)
  have A12 := A11.apart (c := w5.heap.size + 1) (o := 0 * 9) (vs := rC num0) (by omega) (by omega)
  have V12 := V11.apart (c := w5.heap.size + 1) (o := 0 * 9) (vs := rC num0) (by omega) (by omega)
  have TC := hid C1.t
  have TD := hid D2.t
  have TR := hid (there_part (o := 0 * 9) (m := 9) C3.t (by decide))
  have TQ := hid (there_part (o := 0 * 9) (m := 9) D4.t (by decide))
  have C6 : Hid (RwT w.heap.size w _ w5.heap.size 740 (stC celS)) := hid C5
  have D6 : Hid (RwT w.heap.size w _ (w5.heap.size + 1) 740 (stC numS)) := hid D5
  have A13 := hid A12
  have V13 := hid V12
  have BL6 := bld_r_m 6 1
  have BL1 := bld_r_k 1
  have hsz' := hid hsz
  clear A7 A8 A9 A10 A11 A12 V7 V8 V9 V10 V11 V12 C0 C1 C2 C3 C4 C5 D0 D2 D3 D4 D5 A6 V6 hz6 hz7 hg6 hg7 hsz l5A l5V h1
  go_wp2_with (first | ((with_reducible refine at_store (x := .tmp 4) (y := .tmp 26) 36 ?_); refine wpList_store_st (.tmp 4) (.tmp 26) rfl rfl w5.heap.size st0 rfl rfl TC.out ?_) | ((with_reducible refine at_store (x := .tmp 5) (y := .tmp 27) 36 ?_); refine wpList_store_st (.tmp 5) (.tmp 27) rfl rfl (w5.heap.size + 1) st0 rfl rfl TD.out ?_) | ((with_reducible refine at_store (x := .tmp 30) (y := .tmp 28) 30 ?_); refine wpList_store_rg (.tmp 30) (.tmp 28) rfl rfl w5.heap.size (0 * 9) cel1 rfl (congrArg Value.agg cel1C.symm) TR.out ?_) | ((with_reducible refine at_store (x := .tmp 33) (y := .tmp 31) 30 ?_); refine wpList_store_rg (.tmp 33) (.tmp 31) rfl rfl (w5.heap.size + 1) (0 * 9) num0 rfl (congrArg Value.agg num0C.symm) TQ.out ?_) | ((with_reducible refine at_load (d := some 34) 36 ?_); refine wpList_load_g (by rfl) 36 _ rfl w5.heap.size (0) rfl (stC celS) _ C6.out.i.r0 Try.underlying36 rfl (yhs _) ?_) | ((with_reducible refine at_load (d := some 35) 36 ?_); refine wpList_load_g (by rfl) 36 _ rfl (w5.heap.size + 1) (0) rfl (stC numS) _ D6.out.i.r0 Try.underlying36 rfl (yhs _) ?_))
  refine (HJ.out _).mono ?_
  rintro e w6 ⟨rfl, z⟩
  have A14 := hid (A13.out.next z (Nat.le_trans A13.out.i.bel.size (Nat.le_refl _)))
  have V14 := hid (V13.out.next z A13.out.i.bel.size)
  have C14 := hid (C6.out.next z A13.out.i.bel.size)
  have B6 := A14.out.i.bel
  have hs6 := B6.size
  have J1 := hid (ynew_st JS B6 hs6)
  have TJ := hid (ythere_st w6)
  have A15 := hid (A14.out.made (o := .cells (stC st0).toArray 36) (c := w6.heap.size) (m := 0) (vs := stC JS) hs6 rfl)
  have V15 := hid (V14.out.made (o := .cells (stC st0).toArray 36) (c := w6.heap.size) (m := 0) (vs := stC JS) hs6 rfl)
  have C15 := hid (C14.out.made (o := .cells (stC st0).toArray 36) (c := w6.heap.size) (m := 0) (vs := stC JS) hs6 rfl)
  clear z A13 V13 C6 D6 TC TD TR TQ A14 V14 C14 B6 HJ q43 f43 l43 hsz'
  go_wp2_with (first | ((with_reducible refine at_store (x := .tmp 6) (y := .tmp 36) 36 ?_); refine wpList_store_st (.tmp 6) (.tmp 36) rfl rfl w6.heap.size JS rfl rfl TJ.out ?_) | ((with_reducible refine at_load (d := some 39) 36 ?_); refine wpList_load_g (by rfl) 36 _ rfl w1.heap.size (0) rfl (stC begS) _ A15.out.i.r0 Try.underlying36 rfl (yhs _) ?_) | ((with_reducible refine at_load (d := some 40) 74 ?_); refine wpList_load_g (by rfl) 74 _ rfl w2.heap.size (0) rfl (vwC sta2) _ V15.out.i.r0 Try.underlying74 rfl (yhv _ f0_ok) ?_))
  refine (HH2.out _).mono ?_
  rintro e w7 ⟨rfl, z⟩
  have C16 := hid (C15.out.next z C15.out.i.bel.size)
  have J16 := hid (J1.out.next z C15.out.i.bel.size)
  clear z A15 V15 C15 J1 TJ
  go_wp2_with (first | ((with_reducible refine at_load (d := some 45) 36 ?_); refine wpList_load_g (by rfl) 36 _ rfl w5.heap.size (0) rfl (stC celS) _ C16.out.i.r0 Try.underlying36 rfl (yhs _) ?_))
  refine (HM.out _).mono ?_
  rintro e w8 ⟨rfl, z⟩
  have J17 := hid (J16.out.next z C16.out.i.bel.size)
  clear z C16 J16
  have E := fun W => eq_r (zm 1) (zm 1) (by unfold ROk zm; decide) (by unfold ROk zm; decide) W
  rw [rB_self, rV_is, zm1C] at E
  have HR : Hid (w8.rangeAt w6.heap.size (0 * 9) [.int .u8 7, .bool false, .int .i64 1, .int .u64 0, .int .u64 0, .int .u64 0, .int .u64 0, .int .i64 0, .int .i64 0]) := hid (by
    have X := range_reg J17.out.i.r0 0 (by decide)
    rw [hj.out, zm1C] at X
    exact X)
  have BL7 := bld_r_m 7 1
  clear BL1 BL6
  go_wp2_with (first | ((with_reducible refine at_load (d := some 51) 30 ?_); refine wpList_load_g (by rfl) 30 _ rfl w6.heap.size (0 * 9) rfl ([.int .u8 7, .bool false, .int .i64 1, .int .u64 0, .int .u64 0, .int .u64 0, .int .u64 0, .int .i64 0, .int .i64 0]) _ HR.out Try.underlying30 rfl yinfo30 ?_))
  go_ret
  exact ⟨rfl, J17.out.i.bel⟩
end Go.Proofs.Ytodmikjpmcabiaa
