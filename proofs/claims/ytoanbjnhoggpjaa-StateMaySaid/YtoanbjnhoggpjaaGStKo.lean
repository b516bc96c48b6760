/-
  What Join and May answer at the states of the closed law, as the evaluator of closed calls takes them.
-/
import Derived.Test.YtoanbjnhoggpjaaGStX
import Derived.Test.YtoanbjnhoggpjaaGEvF
namespace Go.Proofs.Ytoanbjnhoggpjaa
set_option linter.unusedSimpArgs false
set_option linter.unusedVariables false
set_option maxRecDepth 100000
open Go.ChangeShapes Go.WideShapes Go.ChangeAt Go.RowKit Me

def eqI (a b : Int) : Bool := match a, b with
  | .ofNat x, .ofNat y => Nat.beq x y
  | .negSucc x, .negSucc y => Nat.beq x y
  | _, _ => false
theorem eqI_eq {a b : Int} (h : eqI a b = true) : a = b := by
  unfold eqI at h
  split at h
  · exact congrArg Int.ofNat (Nat.eq_of_beq_eq_true h)
  · exact congrArg Int.negSucc (Nat.eq_of_beq_eq_true h)
  · cases h
def eqC (a b : Value) : Bool := match a, b with
  | .int .u8 x, .int .u8 y => eqI x y
  | .int .i64 x, .int .i64 y => eqI x y
  | .int .u64 x, .int .u64 y => eqI x y
  | .bool true, .bool true => true
  | .bool false, .bool false => true
  | _, _ => false
theorem eqC_eq {a b : Value} (h : eqC a b = true) : a = b := by
  unfold eqC at h
  split at h <;> first | (cases h; done) | (rw [eqI_eq h]; done) | rfl
def eqL : List Value → List Value → Bool
  | [], [] => true
  | a :: l, b :: m => match eqC a b with
    | true => eqL l m
    | false => false
  | _, _ => false
theorem eqL_eq : ∀ {l m : List Value}, eqL l m = true → l = m
  | [], [], _ => rfl
  | a :: l, b :: m, h => by
    unfold eqL at h
    split at h
    · rename_i e
      rw [eqC_eq e, eqL_eq h]
    · cases h
  | [], _ :: _, h => by cases h
  | _ :: _, [], h => by cases h
theorem rC_fix (η : Ev.Env) (r : Rg) : (rC r).map (Ev.rV η) = rC r := by unfold rC; simp
theorem kC_fix (η : Ev.Env) (x : Sk) : (kC x).map (Ev.rV η) = kC x := by unfold kC; simp [rC_fix]
theorem stC_fix (η : Ev.Env) (S : St) : (stC S).map (Ev.rV η) = stC S := by
  unfold stC regC stkC
  simp only [List.map_append, List.map_flatMap, rC_fix, kC_fix, List.map_cons, List.map_nil, Ev.rV_int]
theorem stV_fix (η : Ev.Env) (S : St) : Ev.rV η (stV S) = stV S := by
  unfold stV
  have := stC_fix η S
  simp [this]
end Go.Proofs.Ytoanbjnhoggpjaa
