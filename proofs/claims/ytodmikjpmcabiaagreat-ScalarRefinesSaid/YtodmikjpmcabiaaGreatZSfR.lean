import Derived.Test.YtodmikjpmcabiaaGreatZSfS
import Derived.Test.YtodmikjpmcabiaaGreatZSfT
import Derived.Test.YtodmikjpmcabiaaGreatZSfU
import Derived.Test.YtodmikjpmcabiaaGreatZSfV
namespace Go.Proofs.YtodmikjpmcabiaaGreat
set_option linter.unusedSimpArgs false
set_option linter.unusedVariables false
set_option maxRecDepth 100000
set_option maxRecDepth 100000
open Go.ChangeShapes Go.WideShapes Go.ChangeAt Go.RowKit

theorem rRefine_any (op : Int) (c : Bool) (a b : Sc) (k : Bool) (w : World) : Calls Tryz.prog 30 #[.int .i64 op, .bool c, sv a, sv b, .bool k] w fun e w' => e = .returned (tri (refT op c a b k)) ∧ Below w.heap.size w w' := by
  rw [← refR_is]
  unfold refR
  cases h : Wd.isCond op
  · rw [if_neg (fun q => by have := q.1; rw [h] at this; cases this)]
    exact rRefine_none op c a b k h w
  cases ha : mayX a
  · rw [if_neg (fun q => by have := q.2.1; rw [ha] at this; cases this)]
    exact rRefine_na op c a b k h ha w
  cases hb : mayX b
  · rw [if_neg (fun q => by have := q.2.2; rw [hb] at this; cases this)]
    exact rRefine_nb op c a b k h ha hb w
  rw [if_pos ⟨h, ha, hb⟩]
  by_cases hR : refH (if k = true then op else oppR op) c a b
  · rw [if_pos hR]
    exact rRefine_high op c a b k h ha hb hR w
  rw [if_neg hR]
  have hq := q_ops h k
  generalize hQ : unsI (if k = true then op else oppR op) = q at hq ⊢
  rcases hq with rfl | rfl | rfl | rfl | rfl | rfl | rfl | rfl
  · exact rRefine_q1 op c a b k h ha hb hR hQ w
  · cases hB : singleX b <;> cases hA : singleX a
    · exact rRefine_q500 op c a b k h ha hb hR hQ hB hA w
    · exact rRefine_q501 op c a b k h ha hb hR hQ hB hA w
    · exact rRefine_q510 op c a b k h ha hb hR hQ hB hA w
    · exact rRefine_q511 op c a b k h ha hb hR hQ hB hA w
  · by_cases hT : b.2.1 = topB ∨ a.2.2 = 0#64
    · exact rRefine_q2n op c a b k h ha hb hR hQ hT w
    · exact rRefine_q2 op c a b k h ha hb hR hQ hT w
  · exact rRefine_q3 op c a b k h ha hb hR hQ w
  · by_cases hT : a.2.1 = topB ∨ b.2.2 = 0#64
    · exact rRefine_q10n op c a b k h ha hb hR hQ hT w
    · exact rRefine_q10 op c a b k h ha hb hR hQ hT w
  · exact rRefine_q11 op c a b k h ha hb hR hQ w
  · by_cases hT : ((a.1.1 ||| a.1.2) &&& (b.1.1 ||| b.1.2)) = 0#64
    · exact rRefine_q4n op c a b k h ha hb hR hQ hT w
    · exact rRefine_q4y op c a b k h ha hb hR hQ hT w
  · by_cases hT : (a.1.1 &&& b.1.1) = 0#64
    · cases hU : singleX b
      · exact rRefine_q100m op c a b k h ha hb hR hQ hT hU w
      · exact rRefine_q100s op c a b k h ha hb hR hQ hT hU w
    · exact rRefine_q100n op c a b k h ha hb hR hQ hT w
end Go.Proofs.YtodmikjpmcabiaaGreat
