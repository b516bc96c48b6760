/-
  Laws WordAlu, WordConds and WordSwaps: package word answers what the document's own answers say. No condition.
-/
import Derived.Test.YtgemnkaiajdcfaaAwake
import Derived.Lib.SmallJoins
namespace Go.Proofs.Ytgemnkaiajdcfaa
open Go.ChangeShapes Go.WideShapes Go.ChangeAt Go.RowKit

/-- A block's cells in a later world. -/
theorem cell_later {w w1 : World} {cs : Array Value} {t : TypeId} (hb : Below (w.alloc (.cells cs t)).heap.size (w.alloc (.cells cs t)) w1) (o : Nat) (v : Value) (h : cs[o]? = some v) :
    w1.cell? ⟨w.heap.size, o, none⟩ = some v := by
  rw [hb.cell (p := ⟨w.heap.size, o, none⟩) (by simp)]
  simp [h]
theorem below_box {w w1 : World} {o : Obj} (hb : Below (w.alloc o).heap.size (w.alloc o) w1) : Below w.heap.size w w1 :=
  ((Below.refl _ _).alloc (Nat.le_refl _) _).trans (hb.mono (by simp))

theorem wordAlu_walk (op : Int) (wide : Bool) (a b : Int) (_o0 : -9223372036854775808 ≤ op) (_o1 : op < 9223372036854775808) (h0 : 0 ≤ a) (h1 : a < 18446744073709551616) (g0 : 0 ≤ b) (g1 : b < 18446744073709551616) (w : World) :
    Calls Try.prog 3 #[.agg #[.int .i64 op, .bool wide, .int .u64 a, .int .u64 b]] w fun e w' => e = .returned (.bool true) ∧ Below w.heap.size w w' := by
  go_enter Try.func3, Try.ntmps3
  go_wp2_with fail
  refine (alu_any op wide a b _ h0 h1 g0 g1).mono ?_
  rintro e w1 ⟨rfl, b1⟩
  have c0 := cell_later b1 0 _ rfl
  have c1 := cell_later b1 1 _ rfl
  have c2 := cell_later b1 2 _ rfl
  have c3 := cell_later b1 3 _ rfl
  go_wp2_with fail
  refine (ralu_any op wide a b _ h0 h1 g0 g1).mono ?_
  rintro e w2 ⟨rfl, rfl⟩
  go_wp2_with fail
  refine (awake_any _).mono ?_
  rintro e w3 ⟨rfl, b3⟩
  have bb := below_box (below_next b1 b3)
  clear b1 b3 c0 c1 c2 c3
  go_wp2
  go_ret
  exact ⟨rfl, bb⟩

theorem wordConds_walk (op : Int) (wide : Bool) (a b : Int) (_o0 : -9223372036854775808 ≤ op) (_o1 : op < 9223372036854775808) (h0 : 0 ≤ a) (h1 : a < 18446744073709551616) (g0 : 0 ≤ b) (g1 : b < 18446744073709551616) (w : World) :
    Calls Try.prog 4 #[.agg #[.int .i64 op, .bool wide, .int .u64 a, .int .u64 b]] w fun e w' => e = .returned (.bool true) ∧ Below w.heap.size w w' := by
  go_enter Try.func4, Try.ntmps4
  go_wp2_with fail
  refine (cond_any op wide a b _ h0 h1 g0 g1).mono ?_
  rintro e w1 ⟨rfl, b1⟩
  have c0 := cell_later b1 0 _ rfl
  have c1 := cell_later b1 1 _ rfl
  have c2 := cell_later b1 2 _ rfl
  have c3 := cell_later b1 3 _ rfl
  go_wp2_with fail
  refine (rcond_any op wide a b _ h0 h1 g0 g1).mono ?_
  rintro e w2 ⟨rfl, rfl⟩
  go_wp2_with fail
  refine (awake_any _).mono ?_
  rintro e w3 ⟨rfl, b3⟩
  have bb := below_box (below_next b1 b3)
  clear b1 b3 c0 c1 c2 c3
  go_wp2
  go_ret
  exact ⟨rfl, bb⟩

/-! ### WordAlu -/
namespace wordAlu
set_option maxRecDepth 100000 in
theorem lifted (os : Os) (started : os.Started) (H : Type) (enc : TypeId × Value → H) :
    ReturnsInHanded {} Try.checked os 3 .any (Rows.wordAluSpec.pre6 enc Try.prog Try.f3 Rows.wordAluRow.domain false) (Rows.wordAluSpec.post enc Try.prog Try.f3 false true false false) := by
  refine returnsInHanded_of_change (C := Try.checked) own started (by kernel_rfl) Try.func3
    (ChangeSpec.witness6 (enc := enc) (C := Try.checked) false ⟨#[], #[.agg #[.int .i64 0, .bool false, .int .u64 0, .int .u64 0]], []⟩ 3 (by kernel_rfl) (by kernel_rfl) (by kernel_rfl) (by kernel_rfl)) ?_
  intro W base args ds gs before hval0 hW _ _
  have hval : ∀ (j : Nat) t v, Try.f3.params[j]? = some t → args[j]? = some v → Value.okWide Try.prog W .any base t v := hval0
  have hW' := hW
  obtain ⟨p, q, hA0, hV, rfl, _, _⟩ := hW
  have hA : DataW.TrodAll enc Try.prog W 0 (fun _ => true) true Try.f3.params.toList args.toList ds p := hA0
  rw [Try.params3] at hA hval
  obtain ⟨v0, vs0, d0, ds0, p0, q0, hargs, rfl, rfl, h0, r0⟩ := trodAll_cons hA
  obtain ⟨rfl, rfl, rfl⟩ := trodAll_nil r0
  obtain rfl : args = #[v0] := by cases args; simp_all
  obtain ⟨rfl, rfl⟩ := trodVars_none hV
  obtain ⟨x0_0, x0_1, x0_2, x0_3, y0_0, y0_1, y0_2, y0_3, n0, rfl, rfl, rfl, t0_0, t0_1, t0_2, t0_3⟩ := Go.Joins.open_agg4 Try.underlying24 (by kernel_rfl) (by kernel_rfl) (hval 0 24 v0 rfl rfl) h0
  obtain ⟨op, e0_0, _, wop⟩ := DataW.trod_int (k := .i64) Try.underlying3 t0_0
  obtain rfl := (List.cons.inj e0_0).1
  obtain ⟨wide, e0_1, _⟩ := DataW.trod_bool Try.underlying4 t0_1
  obtain rfl := (List.cons.inj e0_1).1
  obtain ⟨a, e0_2, _, wa⟩ := DataW.trod_int (k := .u64) Try.underlying22 t0_2
  obtain rfl := (List.cons.inj e0_2).1
  obtain ⟨b, e0_3, _, wb⟩ := DataW.trod_int (k := .u64) Try.underlying22 t0_3
  obtain rfl := (List.cons.inj e0_3).1
  obtain ⟨lo_op, hi_op⟩ := bounds_i64 wop
  obtain ⟨lo_a, hi_a⟩ := bounds_u64 wa
  obtain ⟨lo_b, hi_b⟩ := bounds_u64 wb
  clear hA0 hval0
  refine (wordAlu_walk op wide a b lo_op (by omega) lo_a (by omega) lo_b (by omega) W).mono fun e W' ⟨he, hb⟩ => ?_
  subst he
  exact ⟨_, rfl, law_shut laid hW' rfl rfl Try.underlying4 (by kernel_rfl) rfl rfl rfl hb⟩

theorem over : Rows.wordAluRow.holds Try.pinned (OpenSpec.ofChange Rows.wordAluSpec) :=
  OpenClaim.holds_of_wide 3 Try.f3 rfl rfl rfl rfl rfl rfl rfl ⟨rfl, rfl, rfl, rfl, rfl⟩ rfl rfl rfl rfl rfl (by kernel_rfl) Try.func3 (by kernel_rfl)
    (of_decide_eq_true (by kernel_rfl)) (by unfold Func.isWrapper; first | (rw [if_pos (by decide +kernel)]; kernel_rfl) | (rw [if_neg (by decide +kernel)]; exact ⟨rfl, rfl⟩))
    (fun os started H enc _ => lifted os started H enc)

theorem proved : Rows.WordAluSaid :=
  over
end wordAlu


/-! ### WordConds -/
namespace wordConds
set_option maxRecDepth 100000 in
theorem lifted (os : Os) (started : os.Started) (H : Type) (enc : TypeId × Value → H) :
    ReturnsInHanded {} Try.checked os 4 .any (Rows.wordCondsSpec.pre6 enc Try.prog Try.f4 Rows.wordCondsRow.domain false) (Rows.wordCondsSpec.post enc Try.prog Try.f4 false true false false) := by
  refine returnsInHanded_of_change (C := Try.checked) own started (by kernel_rfl) Try.func4
    (ChangeSpec.witness6 (enc := enc) (C := Try.checked) false ⟨#[], #[.agg #[.int .i64 0, .bool false, .int .u64 0, .int .u64 0]], []⟩ 4 (by kernel_rfl) (by kernel_rfl) (by kernel_rfl) (by kernel_rfl)) ?_
  intro W base args ds gs before hval0 hW _ _
  have hval : ∀ (j : Nat) t v, Try.f4.params[j]? = some t → args[j]? = some v → Value.okWide Try.prog W .any base t v := hval0
  have hW' := hW
  obtain ⟨p, q, hA0, hV, rfl, _, _⟩ := hW
  have hA : DataW.TrodAll enc Try.prog W 0 (fun _ => true) true Try.f4.params.toList args.toList ds p := hA0
  rw [Try.params4] at hA hval
  obtain ⟨v0, vs0, d0, ds0, p0, q0, hargs, rfl, rfl, h0, r0⟩ := trodAll_cons hA
  obtain ⟨rfl, rfl, rfl⟩ := trodAll_nil r0
  obtain rfl : args = #[v0] := by cases args; simp_all
  obtain ⟨rfl, rfl⟩ := trodVars_none hV
  obtain ⟨x0_0, x0_1, x0_2, x0_3, y0_0, y0_1, y0_2, y0_3, n0, rfl, rfl, rfl, t0_0, t0_1, t0_2, t0_3⟩ := Go.Joins.open_agg4 Try.underlying24 (by kernel_rfl) (by kernel_rfl) (hval 0 24 v0 rfl rfl) h0
  obtain ⟨op, e0_0, _, wop⟩ := DataW.trod_int (k := .i64) Try.underlying3 t0_0
  obtain rfl := (List.cons.inj e0_0).1
  obtain ⟨wide, e0_1, _⟩ := DataW.trod_bool Try.underlying4 t0_1
  obtain rfl := (List.cons.inj e0_1).1
  obtain ⟨a, e0_2, _, wa⟩ := DataW.trod_int (k := .u64) Try.underlying22 t0_2
  obtain rfl := (List.cons.inj e0_2).1
  obtain ⟨b, e0_3, _, wb⟩ := DataW.trod_int (k := .u64) Try.underlying22 t0_3
  obtain rfl := (List.cons.inj e0_3).1
  obtain ⟨lo_op, hi_op⟩ := bounds_i64 wop
  obtain ⟨lo_a, hi_a⟩ := bounds_u64 wa
  obtain ⟨lo_b, hi_b⟩ := bounds_u64 wb
  clear hA0 hval0
  refine (wordConds_walk op wide a b lo_op (by omega) lo_a (by omega) lo_b (by omega) W).mono fun e W' ⟨he, hb⟩ => ?_
  subst he
  exact ⟨_, rfl, law_shut laid hW' rfl rfl Try.underlying4 (by kernel_rfl) rfl rfl rfl hb⟩

theorem over : Rows.wordCondsRow.holds Try.pinned (OpenSpec.ofChange Rows.wordCondsSpec) :=
  OpenClaim.holds_of_wide 4 Try.f4 rfl rfl rfl rfl rfl rfl rfl ⟨rfl, rfl, rfl, rfl, rfl⟩ rfl rfl rfl rfl rfl (by kernel_rfl) Try.func4 (by kernel_rfl)
    (of_decide_eq_true (by kernel_rfl)) (by unfold Func.isWrapper; first | (rw [if_pos (by decide +kernel)]; kernel_rfl) | (rw [if_neg (by decide +kernel)]; exact ⟨rfl, rfl⟩))
    (fun os started H enc _ => lifted os started H enc)

theorem proved : Rows.WordCondsSaid :=
  over
end wordConds

end Go.Proofs.Ytgemnkaiajdcfaa
