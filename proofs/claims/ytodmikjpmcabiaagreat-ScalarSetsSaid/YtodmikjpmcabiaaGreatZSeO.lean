/-
  Contracts of the document's Of, All (layer 11).
-/
import Derived.Test.YtodmikjpmcabiaaGreatZRcC
namespace Go.Proofs.YtodmikjpmcabiaaGreat
set_option linter.unusedSimpArgs false
set_option linter.unusedVariables false
set_option maxRecDepth 100000
set_option maxRecDepth 100000
open Go.ChangeShapes Go.WideShapes Go.ChangeAt Go.RowKit

theorem rOfX_any (n : B64) (w : World) : Calls Tryz.prog 17 #[.int .u64 (ub n)] w fun e w' => e = .returned (sv (ofX n)) ∧ Below w.heap.size w w' := by
  go_enter Tryz.func17, Tryz.ntmps17
  go_wp2
  exact bodyPost_ret (v := sv (ofX n)) (by simp [results, Tryz.results17, go_sem]; try rfl) rfl ⟨rfl, (Below.refl _ _).alloc (Nat.le_refl _) _⟩
theorem rAllX_any (w : World) : Calls Tryz.prog 19 #[] w fun e w' => e = .returned (sv allX) ∧ Below w.heap.size w w' := by
  have X1 := fun W => rAll_any W
  unfold tv at X1
  dsimp only at X1
  replace X1 := hid X1
  go_enter Tryz.func19, Tryz.ntmps19
  go_wp2_with fail
  refine (X1.out _).mono ?_
  rintro e w1 ⟨rfl, z⟩
  have JR : SC w1 (w.heap.size) (sc0) := (SC.new rfl).below z
  have B := below_next (bel_alloc (Below.refl w.heap.size w)) z
  clear z
  have JR0 := JR.c0
  have JRf0 := JR.f0
  have JR1 := JR.c1
  have JRf1 := JR.f1
  have JR2 := JR.c2
  have JRf2 := JR.f2
  have JR3 := JR.c3
  have JRf3 := JR.f3
  have JRl := JR.lt
  have lb := B.size
  go_wp2
  exact bodyPost_ret (v := sv allX) (by simp [results, Tryz.results19, go_sem, JR0, JR1, JR2, JR3, JRl]; try first | rfl | exact ⟨rfl, rfl⟩) rfl ⟨rfl, putS_below allX B (by omega)⟩
end Go.Proofs.YtodmikjpmcabiaaGreat
