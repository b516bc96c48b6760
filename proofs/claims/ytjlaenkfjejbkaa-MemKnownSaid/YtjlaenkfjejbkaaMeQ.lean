/-
  Plain: the chapter's second example; frames stay frames.
-/
import Derived.Test.YtjlaenkfjejbkaaMeI
import Derived.Test.YtjlaenkfjejbkaaMeN
namespace Go.Proofs.Ytjlaenkfjejbkaa
set_option linter.unusedSimpArgs false
set_option linter.unusedVariables false
open Go.ChangeShapes Go.WideShapes Go.ChangeAt Go.RowKit

theorem storeF_ok {F : Nat → Sl} {off size : Int} {v : Vl} (hF : FOk F) (hv : VOk v) : FOk (storeF F off size v).1 := by
  unfold storeF
  split
  · exact f0_ok
  rename_i h1
  split
  · exact f0_ok
  split
  · exact f0_ok
  rename_i h3
  split
  · exact f0_ok
  · have hs : sizeB size = true := by
      cases h : sizeB size
      · simp [h] at h1
      · rfl
    have hp : placeE off size = 0 := by simpa using h3
    obtain ⟨_, _, hz, h2, _⟩ := place_ok hs hp
    exact setF_ok hF (storeS_ok (hF _ h2) hz hv)
def n258 : Vl := ⟨1, 0, 258, 0⟩
theorem n258_ok : VOk n258 := by unfold VOk n258; simp
def F1 : Nat → Sl := (storeF f0 8 4 n258).1
theorem F1_ok : FOk F1 := storeF_ok f0_ok n258_ok
theorem F1_e : (storeF f0 8 4 n258).2 = 0 := by kernel_rfl
theorem F1_1 : loadF F1 8 1 = (⟨1, 0, 2, 0⟩, 0) := by kernel_rfl
theorem F1_4 : loadF F1 8 4 = (⟨1, 0, 258, 0⟩, 0) := by kernel_rfl
theorem F1_8 : loadF F1 8 8 = (v0, 40) := by kernel_rfl
theorem F1_r : rightF F1 = true := by kernel_rfl
theorem G770 : getN [1, 2, 3] 1 2 = 770 := by kernel_rfl
theorem G0 : getE ([1, 2, 3] : List Int).length 1 2 = 0 := by kernel_rfl

end Go.Proofs.Ytjlaenkfjejbkaa
