/-
  Law InsnOf: what insn.Of tells of an instruction is what the document's own Of tells, for every instruction. The table of sizes is as start-up lays it (the card ties it); no other condition.
-/
import Derived.Test.YtahkdflmnaphpaaDoorInsnW
import Derived.Test.YtahkdflmnaphpaaDoorInsnK
namespace Go.Proofs.YtahkdflmnaphpaaDoor
set_option linter.unusedSimpArgs false
set_option linter.unusedVariables false
open Go.ChangeShapes Go.WideShapes Go.ChangeAt Go.RowKit

theorem insnOf_walk (op dst src off imm : Int) (h0 : 0 ≤ op) (h1 : op < 256) (d0 : 0 ≤ dst) (d1 : dst < 256) (s0 : 0 ≤ src) (s1 : src < 256) (o0 : -32768 ≤ off) (o1 : off < 32768) (m0 : -2147483648 ≤ imm) (m1 : imm < 2147483648) (w : World) (hz : SzOk w) :
    Calls Tryd.prog 3 #[.agg #[.int .u8 op, .int .u8 dst, .int .u8 src, .int .i16 off, .int .i32 imm]] w fun e w' => e = .returned (.bool true) ∧ Below w.heap.size w w' := by
  have HO := hid fun W hW => of_any op dst src off imm W h0 h1 d0 d1 s0 s1 o0 o1 m0 m1 hW
  have HR := hid fun W => rof_any op dst src off imm W h0 h1 d0 d1 s0 s1 o0 o1 m0 m1
  generalize tkR (rowI op src imm) dst src off imm = r at HO HR
  generalize tkE (rowI op src imm) dst src off imm = k at HO HR
  have HZ := hid hz
  clear hz
  go_enter Tryd.func3, Tryd.ntmps3
  go_wp2_with fail
  refine (HO.out _ (HZ.out.alloc _)).mono ?_
  rintro e w1 ⟨rfl, b1⟩
  have q0 : w.heap.size < w1.heap.size := by have := b1.size; simp at this; omega
  obtain ⟨hc, hf⟩ := bcell b1
  have HB1 := hid (((Below.refl w.heap.size w).alloc (Nat.le_refl _) _).trans (b1.mono (by simp)))
  have hz1 := hid ((HZ.out.alloc _).below b1)
  have c0 : w1.cell? ⟨w.heap.size, 0, none⟩ = some (.int .u8 op) := by rw [hc _ _ (by simp)]; simp
  have c1 : w1.cell? ⟨w.heap.size, 1, none⟩ = some (.int .u8 dst) := by rw [hc _ _ (by simp)]; simp
  have c2 : w1.cell? ⟨w.heap.size, 2, none⟩ = some (.int .u8 src) := by rw [hc _ _ (by simp)]; simp
  have c3 : w1.cell? ⟨w.heap.size, 3, none⟩ = some (.int .i16 off) := by rw [hc _ _ (by simp)]; simp
  have c4 : w1.cell? ⟨w.heap.size, 4, none⟩ = some (.int .i32 imm) := by rw [hc _ _ (by simp)]; simp
  clear hc hf b1 HO
  simp only [whV]
  go_wp2_with fail
  refine (HR.out _).mono ?_
  rintro e w2 ⟨rfl, b2⟩
  have q1 : w1.heap.size < w2.heap.size := by have := b2.size; simp at this; omega
  obtain ⟨hc, hf⟩ := bcell b2
  have HB2 := hid (((Below.refl w1.heap.size w1).alloc (Nat.le_refl _) _).trans (b2.mono (by simp)))
  have hz2 := hid ((hz1.out.alloc _).below b2)
  clear c0 c1 c2 c3 c4
  have c0 : w2.cell? ⟨w1.heap.size, 0, none⟩ = some (.int .i64 r.cls) := by rw [hc _ _ (by simp)]; simp
  have c1 : w2.cell? ⟨w1.heap.size, 1, none⟩ = some (.int .i64 r.op) := by rw [hc _ _ (by simp)]; simp
  have c2 : w2.cell? ⟨w1.heap.size, 2, none⟩ = some (.int .i64 r.size) := by rw [hc _ _ (by simp)]; simp
  have c3 : w2.cell? ⟨w1.heap.size, 3, none⟩ = some (.bool r.wide) := by rw [hc _ _ (by simp)]; simp
  have c4 : w2.cell? ⟨w1.heap.size, 4, none⟩ = some (.bool r.reg) := by rw [hc _ _ (by simp)]; simp
  clear hc hf b2 HR
  simp only [whV]
  have hs := hid fun W => is_same r W
  simp only [whV] at hs
  go_wp2_with fail
  refine (hs.out _).mono ?_
  rintro e w3 ⟨rfl, b3⟩
  have HB3 := hid (((Below.refl w2.heap.size w2).alloc (Nat.le_refl _) _).trans (b3.mono (by simp)))
  have hz3 := hid ((hz2.out.alloc _).below b3)
  clear b3 hs
  go_wp2_with fail
  refine (wakes_any _ hz3.out).mono ?_
  rintro e w4 ⟨rfl, b4⟩
  have HB4 := hid b4
  clear b4
  go_wp2
  go_ret
  exact ⟨rfl, below_next (below_next (below_next HB1.out HB2.out) HB3.out) HB4.out⟩


/-! ### InsnOf -/
namespace insnOf
set_option maxRecDepth 100000 in
theorem contract (H : Type) (enc : TypeId × Value → H) (W : World) (base : Nat) (args : Array Value) (ds gs : List (DataW H)) (before : List MemPlace)
    (hval : ∀ (j : Nat) t v, Tryd.f3.params[j]? = some t → args[j]? = some v → Value.okWide Tryd.prog W .any base t v)
    (hW : DataW.Whole enc Tryd.prog Tryd.f3.params.toList Rows.insnOfSpec.vars false W args.toList ds gs before) (hL : laidMetH Tryd.prog Rows.insnOfRow.laid W) :
    Calls Tryd.prog 3 args W fun e W' => ∃ v, e = .returned v ∧ Rows.insnOfSpec.post enc Tryd.prog Tryd.f3 false true false false W args v W' := by
  have hW' := hW
  obtain ⟨p, q, hA0, hV, rfl, hfz, hnd⟩ := hW
  have hA : DataW.TrodAll enc Tryd.prog W 0 (fun _ => true) true Tryd.f3.params.toList args.toList ds p := hA0
  rw [Tryd.params3] at hA hval
  obtain ⟨v0, vs0, d0, ds0, p0, q0, hargs, rfl, rfl, h0, r0⟩ := trodAll_cons hA
  obtain ⟨rfl, rfl, rfl⟩ := trodAll_nil r0
  obtain rfl : args = #[v0] := by cases args; simp_all
  obtain ⟨rfl, rfl⟩ := trodVars_none hV
  obtain ⟨cs0, rfl, z0, g0⟩ := open_struct Tryd.underlying24 (by kernel_rfl) (hval 0 24 v0 rfl rfl) h0
  obtain ⟨x0_0, x0_1, x0_2, x0_3, x0_4, rfl⟩ := array5_of (z0.trans (show Tryd.prog.cellsOf 24 = 5 by kernel_rfl))
  obtain ⟨_, y0_0, t0_0⟩ := g0 0 _ _ rfl rfl
  obtain ⟨op, e0_0, _, wop⟩ := DataW.trod_int (k := .u8) Tryd.underlying5 t0_0
  obtain rfl := (List.cons.inj e0_0).1
  obtain ⟨_, y0_1, t0_1⟩ := g0 1 _ _ rfl rfl
  obtain ⟨dst, e0_1, _, wdst⟩ := DataW.trod_int (k := .u8) Tryd.underlying5 t0_1
  obtain rfl := (List.cons.inj e0_1).1
  obtain ⟨_, y0_2, t0_2⟩ := g0 2 _ _ rfl rfl
  obtain ⟨src, e0_2, _, wsrc⟩ := DataW.trod_int (k := .u8) Tryd.underlying5 t0_2
  obtain rfl := (List.cons.inj e0_2).1
  obtain ⟨_, y0_3, t0_3⟩ := g0 3 _ _ rfl rfl
  obtain ⟨off, e0_3, _, woff⟩ := DataW.trod_int (k := .i16) Tryd.underlying22 t0_3
  obtain rfl := (List.cons.inj e0_3).1
  obtain ⟨_, y0_4, t0_4⟩ := g0 4 _ _ rfl rfl
  obtain ⟨imm, e0_4, _, wimm⟩ := DataW.trod_int (k := .i32) Tryd.underlying21 t0_4
  obtain rfl := (List.cons.inj e0_4).1
  obtain ⟨lo_op, hi_op⟩ := bounds_u8 wop
  obtain ⟨lo_dst, hi_dst⟩ := bounds_u8 wdst
  obtain ⟨lo_src, hi_src⟩ := bounds_u8 wsrc
  obtain ⟨lo_off, hi_off⟩ := bounds_i16 woff
  obtain ⟨lo_imm, hi_imm⟩ := bounds_i32 wimm
  clear hA0
  refine (insnOf_walk op dst src off imm lo_op (by omega) lo_dst (by omega) lo_src (by omega) lo_off (by omega) lo_imm (by omega) W (sz_of_laid hL)).mono fun e W' ⟨he, hb⟩ => ?_
  subst he
  exact ⟨_, rfl, law_shut laid hW' rfl rfl Tryd.underlying4 (by kernel_rfl) rfl rfl rfl hb⟩
theorem laid_met (os : Os) : laidMet Tryd.prog Rows.insnOfRow.laid ((laidWorld os).forCall (fun _ _ => 0) ⟨#[], #[.agg #[.int .u8 0, .int .u8 0, .int .u8 0, .int .i16 0, .int .i32 0]], []⟩).memory :=
  laidMet_of_run' 8 (by kernel_rfl) (by kernel_rfl)
theorem reads (os : Os) {H : Type} (enc : TypeId × Value → H) : ∃ places, DataW.whole enc Tryd.prog ((laidWorld os).forCall (fun _ _ => 0) ⟨#[], #[.agg #[.int .u8 0, .int .u8 0, .int .u8 0, .int .i16 0, .int .i32 0]], []⟩).memory Tryd.f3.params.toList Rows.insnOfSpec.vars false (#[.agg #[.int .u8 0, .int .u8 0, .int .u8 0, .int .i16 0, .int .i32 0]] : Array Value).toList 8 = some ([.agg [.lit (.int .u8 0), .lit (.int .u8 0), .lit (.int .u8 0), .lit (.int .i16 0), .lit (.int .i32 0)]], [], places) :=
  ⟨[], by kernel_rfl⟩
set_option maxRecDepth 100000 in
theorem lifted (os : Os) (started : os.Started) (H : Type) (enc : TypeId × Value → H) (F : Stop.Interp) :
    ReturnsInHanded {} Tryd.checked os 3 .any ((OpenSpec.ofChange Rows.insnOfSpec).preRow enc Tryd.prog Tryd.f3 Rows.insnOfRow.domain false Rows.insnOfRow.laid) (((OpenSpec.ofChange Rows.insnOfSpec).at F).post enc Tryd.prog Tryd.f3 false true false false) := by
  obtain ⟨places, hx⟩ := reads os enc
  refine returnsInHanded_of_row (C := Tryd.checked) (s := OpenSpec.ofChange Rows.insnOfSpec) own started (by kernel_rfl) Tryd.func3
    (witness_row_at (enc := enc) (C := Tryd.checked) false (laidWorld os) #[.agg #[.int .u8 0, .int .u8 0, .int .u8 0, .int .i16 0, .int .i32 0]] rfl (by kernel_rfl) (by kernel_rfl) (by kernel_rfl)
      (OpenSpec.preRow_of_cond 8 hx (by kernel_rfl) (fun k hk => by cases hk) (by kernel_rfl) (laid_met os))) ?_
  intro W base args ds gs before hval hW _ _ _ hL _ _
  exact contract H enc W base args ds gs before hval hW hL
theorem said : Rows.InsnOfSaid :=
  OpenClaim.holds_of_cond 3 Tryd.f3 rfl rfl rfl rfl rfl rfl rfl ⟨rfl, rfl, rfl, rfl, rfl⟩ rfl rfl rfl rfl rfl (by kernel_rfl) Tryd.func3 (by kernel_rfl)
    (of_decide_eq_true (by kernel_rfl)) (by unfold Func.isWrapper; first | (rw [if_pos (by decide +kernel)]; kernel_rfl) | (rw [if_neg (by decide +kernel)]; exact ⟨rfl, rfl⟩))
    (fun os started H enc _ F => by rw [OpenClaim.pre_eq_preRow]; exact lifted os started H enc F)
theorem plain (f : FuncId) (fn : Func) (hf : Tryd.pinned.checked.prog.funcNamed "stockade/stockadelaw02.InsnOf" = some f) (hfn : Tryd.pinned.checked.prog.funcs[f]? = some fn) :
    false = Tryd.pinned.checked.prog.looks [] ∧ ∀ (j : Nat) t, fn.params[j]? = some t → Tryd.pinned.checked.prog.wantsStandIn t = false := by
  obtain rfl : f = 3 := Option.some.inj ((show Tryd.prog.funcNamed "stockade/stockadelaw02.InsnOf" = some 3 by kernel_rfl).symm.trans hf) |>.symm
  obtain rfl : fn = Tryd.f3 := (Option.some.inj (Tryd.func3.symm.trans hfn)).symm
  exact ⟨by kernel_rfl, plain_of (by kernel_rfl)⟩
/-- The card. -/
theorem card : Rows.InsnOfCardSaid :=
  Claim7.holds_tied_plain_at .later [] _ _ _ _ said (fun _ h => by cases h) (by kernel_rfl) (fun _ h => by cases h) insnOf_row_tie rfl ⟨rfl, rfl⟩ (by kernel_rfl) rfl plain (by kernel_rfl)
end insnOf

end Go.Proofs.YtahkdflmnaphpaaDoor
