/-
  Law InsnOnce: an instruction is made of what it is and of its fields, and of nothing else; what is made of a What is it. The table of sizes is as start-up lays it (the card ties it); no other condition.
-/
import Derived.Test.YtahkdflmnaphpaaDoorLawOnceP
namespace Go.Proofs.YtahkdflmnaphpaaDoor
set_option linter.unusedSimpArgs false
set_option linter.unusedVariables false
open Go.ChangeShapes Go.WideShapes Go.ChangeAt Go.RowKit Go.Joins Go.Deep

theorem insnOnce_walk (op dst src off imm cls o size : Int) (wide reg : Bool) (op2 dst2 src2 off2 imm2 : Int) (h0 : 0 ≤ op) (h1 : op < 256) (d0 : 0 ≤ dst) (d1 : dst < 256) (s0 : 0 ≤ src) (s1 : src < 256) (o0 : -32768 ≤ off) (o1 : off < 32768) (m0 : -2147483648 ≤ imm) (m1 : imm < 2147483648) (_cls0 : -9223372036854775808 ≤ cls) (_cls1 : cls < 9223372036854775808) (_o0 : -9223372036854775808 ≤ o) (_o1 : o < 9223372036854775808) (_size0 : -9223372036854775808 ≤ size) (_size1 : size < 9223372036854775808) (h02 : 0 ≤ op2) (h12 : op2 < 256) (d02 : 0 ≤ dst2) (d12 : dst2 < 256) (s02 : 0 ≤ src2) (s12 : src2 < 256) (o02 : -32768 ≤ off2) (o12 : off2 < 32768) (m02 : -2147483648 ≤ imm2) (m12 : imm2 < 2147483648) (w : World) (hz : SzOk w) :
    Calls Tryd.prog 9 #[.agg #[.int .u8 op, .int .u8 dst, .int .u8 src, .int .i16 off, .int .i32 imm], .agg #[.int .i64 cls, .int .i64 o, .int .i64 size, .bool wide, .bool reg], .agg #[.int .u8 op2, .int .u8 dst2, .int .u8 src2, .int .i16 off2, .int .i32 imm2]] w fun e w' => e = .returned (.bool true) ∧ Below w.heap.size w w' := by
  have HO := fun W h => of_any op dst src off imm W h0 h1 d0 d1 s0 s1 o0 o1 m0 m1 h
  have HJ := fun W h => make_any ⟨cls, o, size, wide, reg, 0, 0, 0, 0⟩ op2 dst2 src2 off2 imm2 W h02 h12 d02 d12 s02 s12 o02 o12 m02 m12 h
  by_cases hk : tkE (rowI op src imm) dst src off imm = 0
  · obtain ⟨r1, r2, r3⟩ := row_back h0 h1 hk
    rw [hk, r3] at HO
    have HK := fun W h => make_any (rowI op src imm) op dst src off imm W h0 h1 d0 d1 s0 s1 o0 o1 m0 m1 h
    have HKB := fun W h => make_any (rowI op src imm) 0 dst src off imm W (by decide) (by decide) d0 d1 s0 s1 o0 o1 m0 m1 h
    rw [r1, r2] at HK HKB
    generalize rowI op src imm = X at HO HK HKB
    rcases mkE_in ⟨cls, o, size, wide, reg, 0, 0, 0, 0⟩ dst2 src2 off2 imm2 with hm | hm | hm | hm
    · obtain ⟨hv, ht, hq⟩ := mk_ok hm
      rw [hv, hm] at HJ
      have HO2 := fun W h => of_any (opI ⟨cls, o, size, wide, reg, 0, 0, 0, 0⟩) dst2 (mkS ⟨cls, o, size, wide, reg, 0, 0, 0, 0⟩ src2) off2 (mkM ⟨cls, o, size, wide, reg, 0, 0, 0, 0⟩ imm2) W (opI_bd _).1 (opI_bd _).2 d02 d12 (mkS_bd _ s02 s12).1 (mkS_bd _ s02 s12).2 o02 o12 (mkM_bd _ m02 m12).1 (mkM_bd _ m02 m12).2 h
      rw [ht] at HO2
      generalize tkR (rowI (opI ⟨cls, o, size, wide, reg, 0, 0, 0, 0⟩) (mkS ⟨cls, o, size, wide, reg, 0, 0, 0, 0⟩ src2) (mkM ⟨cls, o, size, wide, reg, 0, 0, 0, 0⟩ imm2)) dst2 (mkS ⟨cls, o, size, wide, reg, 0, 0, 0, 0⟩ src2) off2 (mkM ⟨cls, o, size, wide, reg, 0, 0, 0, 0⟩ imm2) = Y at HO2 hq
      have hyq := fun W => eq_what Y ⟨cls, o, size, wide, reg, 0, 0, 0, 0⟩ W
      rw [hq] at hyq
      exact once_p0 ⟨cls, o, size, wide, reg, 0, 0, 0, 0⟩ _ Y 0 op dst src off imm op2 dst2 src2 off2 imm2 _ _ _ w hz (hid HO) (hid HK) (hid HKB) (hid HJ) (hid HO2) hyq
    · rw [mk_bad (by rw [hm]; decide), hm] at HJ
      exact once_p1 ⟨cls, o, size, wide, reg, 0, 0, 0, 0⟩ _ r0 0 op dst src off imm op2 dst2 src2 off2 imm2 0 0 0 w hz (hid HO) (hid HK) (hid HKB) (hid HJ)
    · rw [mk_bad (by rw [hm]; decide), hm] at HJ
      exact once_p21 ⟨cls, o, size, wide, reg, 0, 0, 0, 0⟩ _ r0 0 op dst src off imm op2 dst2 src2 off2 imm2 0 0 0 w hz (hid HO) (hid HK) (hid HKB) (hid HJ)
    · rw [mk_bad (by rw [hm]; decide), hm] at HJ
      exact once_p22 ⟨cls, o, size, wide, reg, 0, 0, 0, 0⟩ _ r0 0 op dst src off imm op2 dst2 src2 off2 imm2 0 0 0 w hz (hid HO) (hid HK) (hid HKB) (hid HJ)
  · have hE : (tkE (rowI op src imm) dst src off imm == 0) = false := by simpa using hk
    generalize tkE (rowI op src imm) dst src off imm = E at HO hE
    generalize tkR (rowI op src imm) dst src off imm = X at HO
    rcases mkE_in ⟨cls, o, size, wide, reg, 0, 0, 0, 0⟩ dst2 src2 off2 imm2 with hm | hm | hm | hm
    · obtain ⟨hv, ht, hq⟩ := mk_ok hm
      rw [hv, hm] at HJ
      have HO2 := fun W h => of_any (opI ⟨cls, o, size, wide, reg, 0, 0, 0, 0⟩) dst2 (mkS ⟨cls, o, size, wide, reg, 0, 0, 0, 0⟩ src2) off2 (mkM ⟨cls, o, size, wide, reg, 0, 0, 0, 0⟩ imm2) W (opI_bd _).1 (opI_bd _).2 d02 d12 (mkS_bd _ s02 s12).1 (mkS_bd _ s02 s12).2 o02 o12 (mkM_bd _ m02 m12).1 (mkM_bd _ m02 m12).2 h
      rw [ht] at HO2
      generalize tkR (rowI (opI ⟨cls, o, size, wide, reg, 0, 0, 0, 0⟩) (mkS ⟨cls, o, size, wide, reg, 0, 0, 0, 0⟩ src2) (mkM ⟨cls, o, size, wide, reg, 0, 0, 0, 0⟩ imm2)) dst2 (mkS ⟨cls, o, size, wide, reg, 0, 0, 0, 0⟩ src2) off2 (mkM ⟨cls, o, size, wide, reg, 0, 0, 0, 0⟩ imm2) = Y at HO2 hq
      have hyq := fun W => eq_what Y ⟨cls, o, size, wide, reg, 0, 0, 0, 0⟩ W
      rw [hq] at hyq
      exact once_n0 ⟨cls, o, size, wide, reg, 0, 0, 0, 0⟩ _ Y _ op dst src off imm op2 dst2 src2 off2 imm2 _ _ _ w hz (hid HO) hE (hid HJ) (hid HO2) hyq
    · rw [mk_bad (by rw [hm]; decide), hm] at HJ
      exact once_n1 ⟨cls, o, size, wide, reg, 0, 0, 0, 0⟩ _ r0 _ op dst src off imm op2 dst2 src2 off2 imm2 0 0 0 w hz (hid HO) hE (hid HJ)
    · rw [mk_bad (by rw [hm]; decide), hm] at HJ
      exact once_n21 ⟨cls, o, size, wide, reg, 0, 0, 0, 0⟩ _ r0 _ op dst src off imm op2 dst2 src2 off2 imm2 0 0 0 w hz (hid HO) hE (hid HJ)
    · rw [mk_bad (by rw [hm]; decide), hm] at HJ
      exact once_n22 ⟨cls, o, size, wide, reg, 0, 0, 0, 0⟩ _ r0 _ op dst src off imm op2 dst2 src2 off2 imm2 0 0 0 w hz (hid HO) hE (hid HJ)

/-! ### InsnOnce -/
namespace insnOnce
set_option maxRecDepth 100000 in
theorem contract (H : Type) (enc : TypeId × Value → H) (W : World) (base : Nat) (args : Array Value) (ds gs : List (DataW H)) (before : List MemPlace)
    (hval : ∀ (j : Nat) t v, Tryd.f9.params[j]? = some t → args[j]? = some v → Value.okWide Tryd.prog W .any base t v)
    (hW : DataW.Whole enc Tryd.prog Tryd.f9.params.toList Rows.insnOnceSpec.vars false W args.toList ds gs before) (hL : laidMetH Tryd.prog Rows.insnOnceRow.laid W)
    (hsz : (DataW.weightsEach Tryd.prog (Tryd.f9.params.toList ++ (OpenSpec.ofChange Rows.insnOnceSpec).bare.plain.varTypes Tryd.prog) (ds ++ gs)).all (· ≤ reachBytes) = true) :
    Calls Tryd.prog 9 args W fun e W' => ∃ v, e = .returned v ∧ Rows.insnOnceSpec.post enc Tryd.prog Tryd.f9 false true false false W args v W' := by
  have hW' := hW
  obtain ⟨p, q, hA0, hV, rfl, hfz, hnd⟩ := hW
  have hA : DataW.TrodAll enc Tryd.prog W 0 (fun _ => true) true Tryd.f9.params.toList args.toList ds p := hA0
  rw [Tryd.params9] at hA hval
  obtain ⟨v0, vs0, d0, ds0, p0, q0, hargs, rfl, rfl, h0, r0⟩ := trodAll_cons hA
  obtain ⟨v1, vs1, d1, ds1, p1, q1, rfl, rfl, rfl, h1, r1⟩ := trodAll_cons r0
  obtain ⟨v2, vs2, d2, ds2, p2, q2, rfl, rfl, rfl, h2, r2⟩ := trodAll_cons r1
  obtain ⟨rfl, rfl, rfl⟩ := trodAll_nil r2
  obtain rfl : args = #[v0, v1, v2] := by cases args; simp_all
  obtain ⟨rfl, rfl⟩ := trodVars_none hV
  obtain ⟨cs0, rfl, z0, g0⟩ := open_struct Tryd.underlying24 (by kernel_rfl) (hval 0 24 v0 rfl rfl) h0
  obtain ⟨x0_0, x0_1, x0_2, x0_3, x0_4, rfl⟩ := array5_of (z0.trans (show Tryd.prog.cellsOf 24 = 5 by kernel_rfl))
  obtain ⟨_, y0_0, t0_0⟩ := g0 0 _ _ rfl rfl
  obtain ⟨op, e0_0, _, wop⟩ := DataW.trod_int (k := .u8) Tryd.underlying5 t0_0
  obtain rfl := (List.cons.inj e0_0).1
  obtain ⟨_, y0_1, t0_1⟩ := g0 1 _ _ rfl rfl
  obtain ⟨dst, e0_1, _, wdst⟩ := DataW.trod_int (k := .u8) Tryd.underlying5 t0_1
  obtain rfl := (List.cons.inj e0_1).1
  obtain ⟨_, y0_2, t0_2⟩ := g0 2 _ _ rfl rfl
  obtain ⟨src, e0_2, _, wsrc⟩ := DataW.trod_int (k := .u8) Tryd.underlying5 t0_2
  obtain rfl := (List.cons.inj e0_2).1
  obtain ⟨_, y0_3, t0_3⟩ := g0 3 _ _ rfl rfl
  obtain ⟨off, e0_3, _, woff⟩ := DataW.trod_int (k := .i16) Tryd.underlying22 t0_3
  obtain rfl := (List.cons.inj e0_3).1
  obtain ⟨_, y0_4, t0_4⟩ := g0 4 _ _ rfl rfl
  obtain ⟨imm, e0_4, _, wimm⟩ := DataW.trod_int (k := .i32) Tryd.underlying21 t0_4
  obtain rfl := (List.cons.inj e0_4).1
  obtain ⟨cs1, rfl, z1, g1⟩ := open_struct Tryd.underlying26 (by kernel_rfl) (hval 1 26 v1 rfl rfl) h1
  obtain ⟨x1_0, x1_1, x1_2, x1_3, x1_4, rfl⟩ := array5_of (z1.trans (show Tryd.prog.cellsOf 26 = 5 by kernel_rfl))
  obtain ⟨_, y1_0, t1_0⟩ := g1 0 _ _ rfl rfl
  obtain ⟨cls, e1_0, _, wcls⟩ := DataW.trod_int (k := .i64) Tryd.underlying3 t1_0
  obtain rfl := (List.cons.inj e1_0).1
  obtain ⟨_, y1_1, t1_1⟩ := g1 1 _ _ rfl rfl
  obtain ⟨o, e1_1, _, wo⟩ := DataW.trod_int (k := .i64) Tryd.underlying3 t1_1
  obtain rfl := (List.cons.inj e1_1).1
  obtain ⟨_, y1_2, t1_2⟩ := g1 2 _ _ rfl rfl
  obtain ⟨size, e1_2, _, wsize⟩ := DataW.trod_int (k := .i64) Tryd.underlying3 t1_2
  obtain rfl := (List.cons.inj e1_2).1
  obtain ⟨_, y1_3, t1_3⟩ := g1 3 _ _ rfl rfl
  obtain ⟨wide, e1_3, _⟩ := DataW.trod_bool Tryd.underlying4 t1_3
  obtain rfl := (List.cons.inj e1_3).1
  obtain ⟨_, y1_4, t1_4⟩ := g1 4 _ _ rfl rfl
  obtain ⟨reg, e1_4, _⟩ := DataW.trod_bool Tryd.underlying4 t1_4
  obtain rfl := (List.cons.inj e1_4).1
  obtain ⟨cs2, rfl, z2, g2⟩ := open_struct Tryd.underlying24 (by kernel_rfl) (hval 2 24 v2 rfl rfl) h2
  obtain ⟨x2_0, x2_1, x2_2, x2_3, x2_4, rfl⟩ := array5_of (z2.trans (show Tryd.prog.cellsOf 24 = 5 by kernel_rfl))
  obtain ⟨_, y2_0, t2_0⟩ := g2 0 _ _ rfl rfl
  obtain ⟨op2, e2_0, _, wop2⟩ := DataW.trod_int (k := .u8) Tryd.underlying5 t2_0
  obtain rfl := (List.cons.inj e2_0).1
  obtain ⟨_, y2_1, t2_1⟩ := g2 1 _ _ rfl rfl
  obtain ⟨dst2, e2_1, _, wdst2⟩ := DataW.trod_int (k := .u8) Tryd.underlying5 t2_1
  obtain rfl := (List.cons.inj e2_1).1
  obtain ⟨_, y2_2, t2_2⟩ := g2 2 _ _ rfl rfl
  obtain ⟨src2, e2_2, _, wsrc2⟩ := DataW.trod_int (k := .u8) Tryd.underlying5 t2_2
  obtain rfl := (List.cons.inj e2_2).1
  obtain ⟨_, y2_3, t2_3⟩ := g2 3 _ _ rfl rfl
  obtain ⟨off2, e2_3, _, woff2⟩ := DataW.trod_int (k := .i16) Tryd.underlying22 t2_3
  obtain rfl := (List.cons.inj e2_3).1
  obtain ⟨_, y2_4, t2_4⟩ := g2 4 _ _ rfl rfl
  obtain ⟨imm2, e2_4, _, wimm2⟩ := DataW.trod_int (k := .i32) Tryd.underlying21 t2_4
  obtain rfl := (List.cons.inj e2_4).1
  obtain ⟨lo_op, hi_op⟩ := bounds_u8 wop
  obtain ⟨lo_dst, hi_dst⟩ := bounds_u8 wdst
  obtain ⟨lo_src, hi_src⟩ := bounds_u8 wsrc
  obtain ⟨lo_off, hi_off⟩ := bounds_i16 woff
  obtain ⟨lo_imm, hi_imm⟩ := bounds_i32 wimm
  obtain ⟨lo_cls, hi_cls⟩ := bounds_i64 wcls
  obtain ⟨lo_o, hi_o⟩ := bounds_i64 wo
  obtain ⟨lo_size, hi_size⟩ := bounds_i64 wsize
  obtain ⟨lo_op2, hi_op2⟩ := bounds_u8 wop2
  obtain ⟨lo_dst2, hi_dst2⟩ := bounds_u8 wdst2
  obtain ⟨lo_src2, hi_src2⟩ := bounds_u8 wsrc2
  obtain ⟨lo_off2, hi_off2⟩ := bounds_i16 woff2
  obtain ⟨lo_imm2, hi_imm2⟩ := bounds_i32 wimm2
  clear hA0
  refine (insnOnce_walk op dst src off imm cls o size wide reg op2 dst2 src2 off2 imm2 lo_op (by omega) lo_dst (by omega) lo_src (by omega) lo_off (by omega) lo_imm (by omega) lo_cls (by omega) lo_o (by omega) lo_size (by omega) lo_op2 (by omega) lo_dst2 (by omega) lo_src2 (by omega) lo_off2 (by omega) lo_imm2 (by omega) W (sz_of_laid hL)).mono fun e W' ⟨he, hb⟩ => ?_
  subst he
  exact ⟨_, rfl, law_shut laid hW' rfl rfl Tryd.underlying4 (by kernel_rfl) rfl rfl rfl hb⟩
set_option maxRecDepth 100000 in
theorem laid_met (os : Os) : laidMet Tryd.prog Rows.insnOnceRow.laid ((laidWorld os).forCall (fun _ _ => 0) ⟨#[], #[.agg #[.int .u8 0, .int .u8 0, .int .u8 0, .int .i16 0, .int .i32 0], .agg #[.int .i64 0, .int .i64 0, .int .i64 0, .bool false, .bool false], .agg #[.int .u8 0, .int .u8 0, .int .u8 0, .int .i16 0, .int .i32 0]], []⟩).memory :=
  laidMet_of_run' 8 (by kernel_rfl) (by kernel_rfl)
set_option maxRecDepth 100000 in
theorem reads (os : Os) {H : Type} (enc : TypeId × Value → H) : ∃ places, DataW.whole enc Tryd.prog ((laidWorld os).forCall (fun _ _ => 0) ⟨#[], #[.agg #[.int .u8 0, .int .u8 0, .int .u8 0, .int .i16 0, .int .i32 0], .agg #[.int .i64 0, .int .i64 0, .int .i64 0, .bool false, .bool false], .agg #[.int .u8 0, .int .u8 0, .int .u8 0, .int .i16 0, .int .i32 0]], []⟩).memory Tryd.f9.params.toList Rows.insnOnceSpec.vars false (#[.agg #[.int .u8 0, .int .u8 0, .int .u8 0, .int .i16 0, .int .i32 0], .agg #[.int .i64 0, .int .i64 0, .int .i64 0, .bool false, .bool false], .agg #[.int .u8 0, .int .u8 0, .int .u8 0, .int .i16 0, .int .i32 0]] : Array Value).toList 8 = some ([.agg [.lit (.int .u8 0), .lit (.int .u8 0), .lit (.int .u8 0), .lit (.int .i16 0), .lit (.int .i32 0)], .agg [.lit (.int .i64 0), .lit (.int .i64 0), .lit (.int .i64 0), .lit (.bool false), .lit (.bool false)], .agg [.lit (.int .u8 0), .lit (.int .u8 0), .lit (.int .u8 0), .lit (.int .i16 0), .lit (.int .i32 0)]], [], places) :=
  ⟨[], by kernel_rfl⟩
set_option maxRecDepth 100000 in
theorem lifted (os : Os) (started : os.Started) (H : Type) (enc : TypeId × Value → H) (F : Stop.Interp) :
    ReturnsInHanded {} Tryd.checked os 9 .any ((OpenSpec.ofChange Rows.insnOnceSpec).preRow enc Tryd.prog Tryd.f9 Rows.insnOnceRow.domain false Rows.insnOnceRow.laid) (((OpenSpec.ofChange Rows.insnOnceSpec).at F).post enc Tryd.prog Tryd.f9 false true false false) := by
  obtain ⟨places, hx⟩ := reads os enc
  refine returnsInHanded_of_row (C := Tryd.checked) (s := OpenSpec.ofChange Rows.insnOnceSpec) own started (by kernel_rfl) Tryd.func9
    (witness_row_at (enc := enc) (C := Tryd.checked) false (laidWorld os) #[.agg #[.int .u8 0, .int .u8 0, .int .u8 0, .int .i16 0, .int .i32 0], .agg #[.int .i64 0, .int .i64 0, .int .i64 0, .bool false, .bool false], .agg #[.int .u8 0, .int .u8 0, .int .u8 0, .int .i16 0, .int .i32 0]] rfl (by kernel_rfl) (by kernel_rfl) (by kernel_rfl)
      (OpenSpec.preRow_of_cond 8 hx (by kernel_rfl) (fun k hk => by cases hk) (by kernel_rfl) (laid_met os))) ?_
  intro W base args ds gs before hval hW _ _ hsz hL _ _
  exact contract H enc W base args ds gs before hval hW hL hsz
set_option maxRecDepth 100000 in
theorem said : Rows.InsnOnceSaid :=
  OpenClaim.holds_of_cond 9 Tryd.f9 rfl rfl rfl rfl rfl rfl rfl ⟨rfl, rfl, rfl, rfl, rfl⟩ rfl rfl rfl rfl rfl (by kernel_rfl) Tryd.func9 (by kernel_rfl)
    (of_decide_eq_true (by kernel_rfl)) (by unfold Func.isWrapper; first | (rw [if_pos (by decide +kernel)]; kernel_rfl) | (rw [if_neg (by decide +kernel)]; exact ⟨rfl, rfl⟩))
    (fun os started H enc _ F => by rw [OpenClaim.pre_eq_preRow]; exact lifted os started H enc F)
theorem plain (f : FuncId) (fn : Func) (hf : Tryd.pinned.checked.prog.funcNamed "stockade/stockadelaw02.InsnOnce" = some f) (hfn : Tryd.pinned.checked.prog.funcs[f]? = some fn) :
    false = Tryd.pinned.checked.prog.looks [] ∧ ∀ (j : Nat) t, fn.params[j]? = some t → Tryd.pinned.checked.prog.wantsStandIn t = false := by
  obtain rfl : f = 9 := Option.some.inj ((show Tryd.prog.funcNamed "stockade/stockadelaw02.InsnOnce" = some 9 by kernel_rfl).symm.trans hf) |>.symm
  obtain rfl : fn = Tryd.f9 := (Option.some.inj (Tryd.func9.symm.trans hfn)).symm
  exact ⟨by kernel_rfl, plain_of (by kernel_rfl)⟩
/-- The card. -/
theorem card : Rows.InsnOnceCardSaid :=
  Claim7.holds_tied_plain_at .later [] _ _ _ _ said (fun _ h => by cases h) (by kernel_rfl) (fun _ h => by cases h) insnOnce_row_tie rfl ⟨rfl, rfl⟩ (by kernel_rfl) rfl plain (by kernel_rfl)
end insnOnce

end Go.Proofs.YtahkdflmnaphpaaDoor
