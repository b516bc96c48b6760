/-
  Law InsnNear: registers read and written lie in their bounds and in order; what an instruction does not say must be 0. The table of sizes is as start-up lays it (the card ties it); no other condition.
-/
import Derived.Test.YtkapbeipjjcalaaDoorLawNear
namespace Go.Proofs.YtkapbeipjjcalaaDoor
set_option linter.unusedSimpArgs false
set_option linter.unusedVariables false
open Go.ChangeShapes Go.WideShapes Go.ChangeAt Go.RowKit Go.Joins Go.Deep

/-! ### InsnNear -/
namespace insnNear
set_option maxRecDepth 100000 in
theorem contract (H : Type) (enc : TypeId × Value → H) (W : World) (base : Nat) (args : Array Value) (ds gs : List (DataW H)) (before : List MemPlace)
    (hval : ∀ (j : Nat) t v, Tryd.f4.params[j]? = some t → args[j]? = some v → Value.okWide Tryd.prog W .any base t v)
    (hW : DataW.Whole enc Tryd.prog Tryd.f4.params.toList Rows.insnNearSpec.vars false W args.toList ds gs before) (hL : laidMetH Tryd.prog Rows.insnNearRow.laid W)
    (hsz : (DataW.weightsEach Tryd.prog (Tryd.f4.params.toList ++ (OpenSpec.ofChange Rows.insnNearSpec).bare.plain.varTypes Tryd.prog) (ds ++ gs)).all (· ≤ reachBytes) = true) :
    Calls Tryd.prog 4 args W fun e W' => ∃ v, e = .returned v ∧ Rows.insnNearSpec.post enc Tryd.prog Tryd.f4 false true false false W args v W' := by
  have hW' := hW
  obtain ⟨p, q, hA0, hV, rfl, hfz, hnd⟩ := hW
  have hA : DataW.TrodAll enc Tryd.prog W 0 (fun _ => true) true Tryd.f4.params.toList args.toList ds p := hA0
  rw [Tryd.params4] at hA hval
  obtain ⟨v0, vs0, d0, ds0, p0, q0, hargs, rfl, rfl, h0, r0⟩ := trodAll_cons hA
  obtain ⟨v1, vs1, d1, ds1, p1, q1, rfl, rfl, rfl, h1, r1⟩ := trodAll_cons r0
  obtain ⟨v2, vs2, d2, ds2, p2, q2, rfl, rfl, rfl, h2, r2⟩ := trodAll_cons r1
  obtain ⟨rfl, rfl, rfl⟩ := trodAll_nil r2
  obtain rfl : args = #[v0, v1, v2] := by cases args; simp_all
  obtain ⟨rfl, rfl⟩ := trodVars_none hV
  obtain ⟨cs0, rfl, z0, g0⟩ := open_struct Tryd.underlying24 (by kernel_rfl) (hval 0 24 v0 rfl rfl) h0
  obtain ⟨x0_0, x0_1, x0_2, x0_3, x0_4, rfl⟩ := array5_of (z0.trans (show Tryd.prog.cellsOf 24 = 5 by kernel_rfl))
  obtain ⟨_, y0_0, t0_0⟩ := g0 0 _ _ rfl rfl
  obtain ⟨op, e0_0, _, wop⟩ := DataW.trod_int (k := .u8) Tryd.underlying5 t0_0
  obtain rfl := (List.cons.inj e0_0).1
  obtain ⟨_, y0_1, t0_1⟩ := g0 1 _ _ rfl rfl
  obtain ⟨dst, e0_1, _, wdst⟩ := DataW.trod_int (k := .u8) Tryd.underlying5 t0_1
  obtain rfl := (List.cons.inj e0_1).1
  obtain ⟨_, y0_2, t0_2⟩ := g0 2 _ _ rfl rfl
  obtain ⟨src, e0_2, _, wsrc⟩ := DataW.trod_int (k := .u8) Tryd.underlying5 t0_2
  obtain rfl := (List.cons.inj e0_2).1
  obtain ⟨_, y0_3, t0_3⟩ := g0 3 _ _ rfl rfl
  obtain ⟨off, e0_3, _, woff⟩ := DataW.trod_int (k := .i16) Tryd.underlying22 t0_3
  obtain rfl := (List.cons.inj e0_3).1
  obtain ⟨_, y0_4, t0_4⟩ := g0 4 _ _ rfl rfl
  obtain ⟨imm, e0_4, _, wimm⟩ := DataW.trod_int (k := .i32) Tryd.underlying21 t0_4
  obtain rfl := (List.cons.inj e0_4).1
  obtain ⟨off2, rfl, rfl, rfl, woff2⟩ := open_int Tryd.underlying22 (hval 1 22 v1 rfl rfl) h1
  obtain ⟨imm2, rfl, rfl, rfl, wimm2⟩ := open_int Tryd.underlying21 (hval 2 21 v2 rfl rfl) h2
  obtain ⟨lo_op, hi_op⟩ := bounds_u8 wop
  obtain ⟨lo_dst, hi_dst⟩ := bounds_u8 wdst
  obtain ⟨lo_src, hi_src⟩ := bounds_u8 wsrc
  obtain ⟨lo_off, hi_off⟩ := bounds_i16 woff
  obtain ⟨lo_imm, hi_imm⟩ := bounds_i32 wimm
  obtain ⟨lo_off2, hi_off2⟩ := bounds_i16 woff2
  obtain ⟨lo_imm2, hi_imm2⟩ := bounds_i32 wimm2
  clear hA0
  refine (insnNear_walk op dst src off imm off2 imm2 lo_op (by omega) lo_dst (by omega) lo_src (by omega) lo_off (by omega) lo_imm (by omega) lo_off2 (by omega) lo_imm2 (by omega) W (sz_of_laid hL)).mono fun e W' ⟨he, hb⟩ => ?_
  subst he
  exact ⟨_, rfl, law_shut laid hW' rfl rfl Tryd.underlying4 (by kernel_rfl) rfl rfl rfl hb⟩
set_option maxRecDepth 100000 in
theorem laid_met (os : Os) : laidMet Tryd.prog Rows.insnNearRow.laid ((laidWorld os).forCall (fun _ _ => 0) ⟨#[], #[.agg #[.int .u8 0, .int .u8 0, .int .u8 0, .int .i16 0, .int .i32 0], .int .i16 0, .int .i32 0], []⟩).memory :=
  laidMet_of_run' 8 (by kernel_rfl) (by kernel_rfl)
set_option maxRecDepth 100000 in
theorem reads (os : Os) {H : Type} (enc : TypeId × Value → H) : ∃ places, DataW.whole enc Tryd.prog ((laidWorld os).forCall (fun _ _ => 0) ⟨#[], #[.agg #[.int .u8 0, .int .u8 0, .int .u8 0, .int .i16 0, .int .i32 0], .int .i16 0, .int .i32 0], []⟩).memory Tryd.f4.params.toList Rows.insnNearSpec.vars false (#[.agg #[.int .u8 0, .int .u8 0, .int .u8 0, .int .i16 0, .int .i32 0], .int .i16 0, .int .i32 0] : Array Value).toList 8 = some ([.agg [.lit (.int .u8 0), .lit (.int .u8 0), .lit (.int .u8 0), .lit (.int .i16 0), .lit (.int .i32 0)], .lit (.int .i16 0), .lit (.int .i32 0)], [], places) :=
  ⟨[], by kernel_rfl⟩
set_option maxRecDepth 100000 in
theorem lifted (os : Os) (started : os.Started) (H : Type) (enc : TypeId × Value → H) (F : Stop.Interp) :
    ReturnsInHanded {} Tryd.checked os 4 .any ((OpenSpec.ofChange Rows.insnNearSpec).preRow enc Tryd.prog Tryd.f4 Rows.insnNearRow.domain false Rows.insnNearRow.laid) (((OpenSpec.ofChange Rows.insnNearSpec).at F).post enc Tryd.prog Tryd.f4 false true false false) := by
  obtain ⟨places, hx⟩ := reads os enc
  refine returnsInHanded_of_row (C := Tryd.checked) (s := OpenSpec.ofChange Rows.insnNearSpec) own started (by kernel_rfl) Tryd.func4
    (witness_row_at (enc := enc) (C := Tryd.checked) false (laidWorld os) #[.agg #[.int .u8 0, .int .u8 0, .int .u8 0, .int .i16 0, .int .i32 0], .int .i16 0, .int .i32 0] rfl (by kernel_rfl) (by kernel_rfl) (by kernel_rfl)
      (OpenSpec.preRow_of_cond 8 hx (by kernel_rfl) (fun k hk => by cases hk) (by kernel_rfl) (laid_met os))) ?_
  intro W base args ds gs before hval hW _ _ hsz hL _ _
  exact contract H enc W base args ds gs before hval hW hL hsz
set_option maxRecDepth 100000 in
theorem said : Rows.InsnNearSaid :=
  OpenClaim.holds_of_cond 4 Tryd.f4 rfl rfl rfl rfl rfl rfl rfl ⟨rfl, rfl, rfl, rfl, rfl⟩ rfl rfl rfl rfl rfl (by kernel_rfl) Tryd.func4 (by kernel_rfl)
    (of_decide_eq_true (by kernel_rfl)) (by unfold Func.isWrapper; first | (rw [if_pos (by decide +kernel)]; kernel_rfl) | (rw [if_neg (by decide +kernel)]; exact ⟨rfl, rfl⟩))
    (fun os started H enc _ F => by rw [OpenClaim.pre_eq_preRow]; exact lifted os started H enc F)
theorem plain (f : FuncId) (fn : Func) (hf : Tryd.pinned.checked.prog.funcNamed "stockade/stockadelaw02.InsnNear" = some f) (hfn : Tryd.pinned.checked.prog.funcs[f]? = some fn) :
    false = Tryd.pinned.checked.prog.looks [] ∧ ∀ (j : Nat) t, fn.params[j]? = some t → Tryd.pinned.checked.prog.wantsStandIn t = false := by
  obtain rfl : f = 4 := Option.some.inj ((show Tryd.prog.funcNamed "stockade/stockadelaw02.InsnNear" = some 4 by kernel_rfl).symm.trans hf) |>.symm
  obtain rfl : fn = Tryd.f4 := (Option.some.inj (Tryd.func4.symm.trans hfn)).symm
  exact ⟨by kernel_rfl, plain_of (by kernel_rfl)⟩
/-- The card. -/
theorem card : Rows.InsnNearCardSaid :=
  Claim7.holds_tied_plain_at .later [] _ _ _ _ said (fun _ h => by cases h) (by kernel_rfl) (fun _ h => by cases h) insnNear_row_tie rfl ⟨rfl, rfl⟩ (by kernel_rfl) rfl plain (by kernel_rfl)
end insnNear

end Go.Proofs.YtkapbeipjjcalaaDoor
