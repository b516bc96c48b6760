/-
  Contracts of package word's Alu, Cond, Swap and Ext, as the landed code has them.
-/
import Derived.Test.YtgemnkaiajdcfaaWord
namespace Go.Proofs.Ytgemnkaiajdcfaa
open Go.ChangeShapes Go.WideShapes Go.ChangeAt Go.RowKit

theorem masked_cell (wide : Bool) (w : World) : (masked wide w).cell? ⟨w.heap.size, 0, none⟩ = some (.int .u64 (MD wide - 1)) := by
  unfold masked
  simp

theorem masked_size (wide : Bool) (w : World) : w.heap.size < (masked wide w).heap.size := by
  unfold masked
  simp

theorem alu_any (op : Int) (wide : Bool) (a b : Int) (w : World) (h0 : 0 ≤ a) (h1 : a < 18446744073709551616) (g0 : 0 ≤ b) (g1 : b < 18446744073709551616) :
    Calls Try.prog 13 #[.int .i64 op, .bool wide, .int .u64 a, .int .u64 b] w fun e w' => e = .returned (.tuple #[.int .u64 (aluI op wide a b), .int .i64 (aluE op)]) ∧ Below w.heap.size w w' := by
  go_enter Try.func13, Try.ntmps13
  go_wp2_with fail
  refine (sizeOf_any wide _).mono ?_
  rintro e w' ⟨rfl, rfl⟩
  go_wp2_with fail
  refine (fitter_any wide _).mono ?_
  rintro e w' ⟨rfl, rfl⟩
  have hc := masked_cell wide w
  go_wp2_with fail
  refine (fit_any wide a _ _ h0 h1 hc).mono ?_
  rintro e w' ⟨rfl, rfl⟩
  go_wp2_with fail
  refine (fit_any wide b _ _ g0 g1 hc).mono ?_
  rintro e w' ⟨rfl, rfl⟩
  go_wp2_with fail
  refine (answer_any op wide _ _ _ (fit_bd wide a).1 (fit_bd wide a).2 (fit_bd wide b).1 (fit_bd wide b).2).mono ?_
  rintro e w1 ⟨rfl, hb⟩
  have hb1 : Below w.heap.size w w1 := (masked_below wide w).trans (hb.mono (Nat.le_of_lt (masked_size wide w)))
  have hc1 : w1.cell? ⟨w.heap.size, 0, none⟩ = some (.int .u64 (MD wide - 1)) := (hb.cell (p := ⟨w.heap.size, 0, none⟩) (masked_size wide w)).trans hc
  clear hc hb
  go_wp2_with fail
  refine (fit_any wide _ _ _ (ansI_bd op wide _ _ (fit_bd wide a).1 (fit_bd64 wide a).2 (fit_bd wide b).1 (fit_bd64 wide b).2).1 (ansI_bd op wide _ _ (fit_bd wide a).1 (fit_bd64 wide a).2 (fit_bd wide b).1 (fit_bd64 wide b).2).2 hc1).mono ?_
  rintro e w' ⟨rfl, rfl⟩
  go_wp2
  go_ret2
  exact ⟨rfl, hb1⟩

theorem ret_bi {k : IntKind} {a b : Bool} {c d : Int} (h : a = b) (g : c = d) : Ending.returned (.tuple #[.bool a, .int k c]) = .returned (.tuple #[.bool b, .int k d]) := by rw [h, g]

set_option maxHeartbeats 1000000 in
theorem cond_any (op : Int) (wide : Bool) (a b : Int) (w : World) (h0 : 0 ≤ a) (h1 : a < 18446744073709551616) (g0 : 0 ≤ b) (g1 : b < 18446744073709551616) :
    Calls Try.prog 16 #[.int .i64 op, .bool wide, .int .u64 a, .int .u64 b] w fun e w' => e = .returned (.tuple #[.bool (condI op wide a b), .int .i64 (condE op)]) ∧ Below w.heap.size w w' := by
  have hb := masked_below wide w
  have hc := masked_cell wide w
  have fa := hid (fit_bd wide a)
  have fb := hid (fit_bd wide b)
  go_enter Try.func16, Try.ntmps16
  go_wp2_with fail
  refine (sizeOf_any wide _).mono ?_
  rintro e w' ⟨rfl, rfl⟩
  go_wp2_with fail
  refine (fitter_any wide _).mono ?_
  rintro e w' ⟨rfl, rfl⟩
  go_wp2_with fail
  refine (fit_any wide a _ _ h0 h1 hc).mono ?_
  rintro e w' ⟨rfl, rfl⟩
  go_wp2_with fail
  refine (fit_any wide b _ _ g0 g1 hc).mono ?_
  rintro e w' ⟨rfl, rfl⟩
  go_wp2_with fail
  refine (signed_any wide _ _ fa.out.1 fa.out.2).mono ?_
  rintro e w' ⟨rfl, rfl⟩
  go_wp2_with fail
  refine (signed_any wide _ _ fb.out.1 fb.out.2).mono ?_
  rintro e w' ⟨rfl, rfl⟩
  go_wp2
  all_goals go_ret2
  all_goals refine ⟨?_, hb⟩
  all_goals first
    | exact ret_bi (cnd_at1 (by assumption) wide _ _) (condE_is (k := 1) (by assumption) rfl)
    | exact ret_bi (cnd_at5 (by assumption) wide _ _) (condE_is (k := 5) (by assumption) rfl)
    | exact ret_bi (cnd_at2 (by assumption) wide _ _) (condE_is (k := 2) (by assumption) rfl)
    | exact ret_bi (cnd_at3 (by assumption) wide _ _) (condE_is (k := 3) (by assumption) rfl)
    | exact ret_bi (cnd_at10 (by assumption) wide _ _) (condE_is (k := 10) (by assumption) rfl)
    | exact ret_bi (cnd_at11 (by assumption) wide _ _) (condE_is (k := 11) (by assumption) rfl)
    | exact ret_bi (cnd_at4 (by assumption) wide _ _) (condE_is (k := 4) (by assumption) rfl)
    | exact ret_bi (cnd_at6 (by assumption) wide _ _) (condE_is (k := 6) (by assumption) rfl)
    | exact ret_bi (cnd_at7 (by assumption) wide _ _) (condE_is (k := 7) (by assumption) rfl)
    | exact ret_bi (cnd_at12 (by assumption) wide _ _) (condE_is (k := 12) (by assumption) rfl)
    | exact ret_bi (cnd_at13 (by assumption) wide _ _) (condE_is (k := 13) (by assumption) rfl)
    | exact ret_bi (cnd_none (by simp only [isCond, *]; rfl) wide _ _).symm (condE_none (by simp only [isCond, *]; rfl)).symm
end Go.Proofs.Ytgemnkaiajdcfaa
