/-
  Helpers: an input with a frame by value fits its types (the check of 832 cells, one by one, in a row).
-/
import Derived.Test.YtjlaenkfjejbkaaMdF
import Derived.WideWitness
namespace Go.Proofs.Ytjlaenkfjejbkaa
set_option linter.unusedSimpArgs false
set_option linter.unusedVariables false
open Go.ChangeShapes Go.WideShapes Go.ChangeAt Go.RowKit

theorem rowB_of_zip {P : Program} {w : World} {t : TypeId} {cs : Array Value} {TS : List TypeId} (hT : P.cellTypes P.depth t = some TS) (hl : cs.size = TS.length)
    (h : (TS.zip cs.toList).all (fun x => Cell.okWideB P w x.1 x.2) = true) : Cell.okWideRowB P w t cs = true := by
  unfold Cell.okWideRowB
  rw [hT]
  simp only [Bool.and_eq_true, beq_iff_eq, List.all_eq_true, List.mem_range]
  refine ⟨by rw [hl, Nat.mod_self], fun i hi => ?_⟩
  have hi2 : i < TS.length := by omega
  rw [Nat.mod_eq_of_lt hi2, Array.getElem?_eq_getElem hi, List.getElem?_eq_getElem hi2]
  simp only
  have := List.all_eq_true.1 h (TS[i], cs[i]) (by
    have hz : i < (TS.zip cs.toList).length := by simp; omega
    have e : (TS.zip cs.toList)[i] = (TS[i], cs[i]) := by simp
    rw [← e]
    exact List.getElem_mem hz)
  exact this
theorem okWideB_of {P : Program} {w : World} {f : FuncId} {fn : Func} {args : Array Value} (hi : (P.inits.idxOf? f).isNone = true) (hf : P.funcs[f]? = some fn)
    (h1 : (fn.body.isSome && !fn.ours && fn.nfree == 0 && args.size == fn.params.size) = true)
    (hall : ∀ j, j < fn.params.size → ∃ t v, fn.params[j]? = some t ∧ args[j]? = some v ∧ Value.okWideB P w t v = true) : Input.okWideB P w f ⟨#[], args, []⟩ = true := by
  unfold Input.okWideB
  rw [hf, hi]
  simp only [h1, Bool.and_eq_true, List.all_eq_true, List.mem_range]
  refine ⟨⟨⟨by simp, rfl⟩, trivial⟩, trivial, fun j hj => ?_⟩
  obtain ⟨t, v, ht, hv, hk⟩ := hall j hj
  rw [ht, hv]
  exact hk
def slotT : List TypeId := [5, 5, 5, 5, 5, 5, 5, 5, 5, 5, 3, 23, 2]
set_option maxRecDepth 100000 in
theorem types29 : Try.prog.cellTypes Try.prog.depth 29 = some (List.replicate 64 slotT).flatten := by kernel_rfl
set_option maxRecDepth 100000 in
theorem zip29 (w : World) : (((List.replicate 64 slotT).flatten).zip (fC f0)).all (fun x => Cell.okWideB Try.prog w x.1 x.2) = true := by kernel_rfl
theorem frame0_ok (w : World) : Value.okWideB Try.prog w 29 (.agg (fC f0).toArray) = true := by
  unfold Value.okWideB
  rw [Try.underlying29]
  simp only [Bool.and_eq_true, beq_iff_eq]
  have hl : (fC f0).toArray.size = 832 := by rw [List.size_toArray, fC_len f0_ok]
  refine ⟨by rw [hl, k29], rowB_of_zip types29 (by rw [hl]; kernel_rfl) (zip29 w)⟩

end Go.Proofs.Ytjlaenkfjejbkaa
