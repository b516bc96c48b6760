/-
  Plain: frames behind stores may be; what a store answers.
-/
import Derived.Test.YtjlaenkfjejbkaaMbP
import Derived.Test.YtjlaenkfjejbkaaMeR
namespace Go.Proofs.Ytjlaenkfjejbkaa
set_option linter.unusedSimpArgs false
set_option linter.unusedVariables false
open Go.ChangeShapes Go.WideShapes Go.ChangeAt Go.RowKit

theorem right_f0 : rightF f0 = true := by kernel_rfl
theorem right_step {F : Nat → Sl} {x : Ac} (hF : FOk F) (h : rightF F = true) : rightF (stepF F x) = true := by
  unfold stepF
  split
  · rename_i he
    exact right_store hF he
  · exact h
theorem right_fold : ∀ (l : List Ac) (F : Nat → Sl), FOk F → rightF F = true → (∀ x ∈ l, AOk x) → rightF (l.foldl stepF F) = true
  | [], _, _, h, _ => h
  | x :: l, F, hF, h, hl => right_fold l _ (stepF_ok hF (hl x (List.mem_cons_self ..))) (right_step hF h) (fun y hy => hl y (List.mem_cons_of_mem _ hy))
theorem right_frame {l : List Ac} (h : ∀ x ∈ l, AOk x) : rightF (frameF l) = true := right_fold _ _ f0_ok right_f0 (fun x hx => h x (List.mem_of_mem_take hx))
def kindsE (off size : Int) (v : Vl) : Int :=
  if (mayB v && sizeB size) = false then 1 else if v.k = 0 then 40 else if placeE off size ≠ 0 then placeE off size else if adrB v = true ∧ size ≠ 8 then 41 else 0
theorem store_kinds (F : Nat → Sl) (off size : Int) (v : Vl) (hr : rightF F = true) : (storeF F off size v).2 = kindsE off size v := by
  unfold storeF kindsE
  cases hm : mayB v
  · simp
  cases hs : sizeB size
  · simp
  by_cases hk : v.k = 0
  · simp [hr, hk]
  by_cases hp : placeE off size = 0
  · have h8 : size.toNat = 8 ↔ size = 8 := by rcases size_cases hs with h | h | h | h <;> simp [h]
    unfold storeS
    cases ha : adrB v
    · simp [hr, hk, hp]
    · by_cases e : size = 8
      · subst e
        simp [hr, hk, hp]
      · have e' : ¬ size.toNat = 8 := fun q => e (h8.1 q)
        simp [hr, hk, hp, e, e']
  · simp [hr, hk, hp]
theorem store_bad {F : Nat → Sl} {off size : Int} {v : Vl} (h : (storeF F off size v).2 ≠ 0) : (storeF F off size v).1 = f0 := by
  rcases store_cases F off size v with ⟨_, e⟩ | ⟨_, _, _, _, _, _, e⟩
  · exact e
  · exact absurd (by rw [e]) h

end Go.Proofs.Ytjlaenkfjejbkaa
