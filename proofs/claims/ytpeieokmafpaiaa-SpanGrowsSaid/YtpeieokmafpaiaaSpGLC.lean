/-
  SpanGrows: the law's walk, and what is handed in.
-/
import Derived.Test.YtpeieokmafpaiaaSpGL
import Derived.Test.YtpeieokmafpaiaaSpY
import Derived.Test.YtpeieokmafpaiaaClK
import Derived.Lib.SmallJoins
namespace Go.Proofs.Ytpeieokmafpaiaa
set_option linter.unusedSimpArgs false
set_option linter.unusedVariables false
open Go.ChangeShapes Go.WideShapes Go.ChangeAt Go.RowKit

namespace SpanGrows
set_option maxRecDepth 100000 in
theorem lifted (os : Os) (started : os.Started) (H : Type) (enc : TypeId × Value → H) :
    ReturnsInHanded {} Try.checked os 13 .any (Rows.spanGrowsSpec.pre6 enc Try.prog Try.f13 Rows.spanGrowsRow.domain false) (Rows.spanGrowsSpec.post enc Try.prog Try.f13 false true false false) := by
  refine returnsInHanded_of_change (C := Try.checked) own started (by kernel_rfl) Try.func13
    (ChangeSpec.witness6 (enc := enc) (C := Try.checked) false ⟨#[], #[.agg #[.int .i64 0, .bool false, .int .u64 0, .int .u64 0, .int .u64 0, .int .u64 0, .int .u64 0, .int .u64 0], .agg #[.int .u64 0, .int .u64 0], .agg #[.int .u64 0, .int .u64 0], .int .i64 0], []⟩ 13 (by kernel_rfl) (by kernel_rfl) (by kernel_rfl) (by kernel_rfl)) ?_
  intro W base args ds gs before hval0 hW _ _
  have hval : ∀ (j : Nat) t v, Try.f13.params[j]? = some t → args[j]? = some v → Value.okWide Try.prog W .any base t v := hval0
  have hW' := hW
  obtain ⟨p, q, hA0, hV, rfl, _, _⟩ := hW
  have hA : DataW.TrodAll enc Try.prog W 0 (fun _ => true) true Try.f13.params.toList args.toList ds p := hA0
  rw [Try.params13] at hA hval
  obtain ⟨v0, vs0, d0, ds0, p0, q0, hargs, rfl, rfl, h0, r0⟩ := trodAll_cons hA
  obtain ⟨v1, vs1, d1, ds1, p1, q1, rfl, rfl, rfl, h1, r1⟩ := trodAll_cons r0
  obtain ⟨v2, vs2, d2, ds2, p2, q2, rfl, rfl, rfl, h2, r2⟩ := trodAll_cons r1
  obtain ⟨v3, vs3, d3, ds3, p3, q3, rfl, rfl, rfl, h3, r3⟩ := trodAll_cons r2
  obtain ⟨rfl, rfl, rfl⟩ := trodAll_nil r3
  obtain rfl : args = #[v0, v1, v2, v3] := by cases args; simp_all
  obtain ⟨rfl, rfl⟩ := trodVars_none hV
  obtain ⟨gop, gc, ga1, ga2, gb1, gb2, gx, gy, rfl⟩ := open_given (hval 0 72 v0 rfl rfl) h0
  obtain ⟨x1_0, x1_1, y1_0, y1_1, n1, rfl, rfl, rfl, t1_0, t1_1⟩ := Go.Joins.open_agg2 Try.underlying53 (by kernel_rfl) (by kernel_rfl) (hval 1 53 v1 rfl rfl) h1
  obtain ⟨c0', e1_0, _, wc0⟩ := DataW.trod_int (k := .u64) Try.underlying22 t1_0
  obtain rfl := (List.cons.inj e1_0).1
  obtain ⟨lo_c0, hi_c0⟩ := bounds_u64 wc0
  obtain ⟨c0, rfl⟩ := ub_of c0' lo_c0 (by omega)
  obtain ⟨c1', e1_1, _, wc1⟩ := DataW.trod_int (k := .u64) Try.underlying22 t1_1
  obtain rfl := (List.cons.inj e1_1).1
  obtain ⟨lo_c1, hi_c1⟩ := bounds_u64 wc1
  obtain ⟨c1, rfl⟩ := ub_of c1' lo_c1 (by omega)
  obtain ⟨x2_0, x2_1, y2_0, y2_1, n2, rfl, rfl, rfl, t2_0, t2_1⟩ := Go.Joins.open_agg2 Try.underlying53 (by kernel_rfl) (by kernel_rfl) (hval 2 53 v2 rfl rfl) h2
  obtain ⟨d0', e2_0, _, wd0⟩ := DataW.trod_int (k := .u64) Try.underlying22 t2_0
  obtain rfl := (List.cons.inj e2_0).1
  obtain ⟨lo_d0, hi_d0⟩ := bounds_u64 wd0
  obtain ⟨d0, rfl⟩ := ub_of d0' lo_d0 (by omega)
  obtain ⟨d1', e2_1, _, wd1⟩ := DataW.trod_int (k := .u64) Try.underlying22 t2_1
  obtain rfl := (List.cons.inj e2_1).1
  obtain ⟨lo_d1, hi_d1⟩ := bounds_u64 wd1
  obtain ⟨d1, rfl⟩ := ub_of d1' lo_d1 (by omega)
  obtain ⟨bits, rfl, rfl, rfl, wbits⟩ := open_int Try.underlying3 (hval 3 3 v3 rfl rfl) h3
  obtain ⟨lo_bits, hi_bits⟩ := bounds_i64 wbits
  clear hA0 hval0
  refine (grows_walk gop gc (ga1, ga2) (gb1, gb2) gx gy (c0, c1) (d0, d1) bits W).mono fun e W' ⟨he, hb⟩ => ?_
  subst he
  exact ⟨_, rfl, law_shut laid hW' rfl rfl Try.underlying4 (by kernel_rfl) rfl rfl rfl hb⟩

theorem over : Rows.spanGrowsRow.holds Try.pinned (OpenSpec.ofChange Rows.spanGrowsSpec) :=
  OpenClaim.holds_of_wide 13 Try.f13 rfl rfl rfl rfl rfl rfl rfl ⟨rfl, rfl, rfl, rfl, rfl⟩ rfl rfl rfl rfl rfl (by kernel_rfl) Try.func13 (by kernel_rfl)
    (of_decide_eq_true (by kernel_rfl)) (by unfold Func.isWrapper; first | (rw [if_pos (by decide +kernel)]; kernel_rfl) | (rw [if_neg (by decide +kernel)]; exact ⟨rfl, rfl⟩))
    (fun os started H enc _ => lifted os started H enc)
end SpanGrows

theorem spanGrows_proved : Rows.SpanGrowsSaid :=
  SpanGrows.over

end Go.Proofs.Ytpeieokmafpaiaa
