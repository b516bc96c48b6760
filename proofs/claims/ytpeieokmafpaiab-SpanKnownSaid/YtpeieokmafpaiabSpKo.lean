/-
  Alu's answers at numbers, as the evaluator of closed calls takes them.
-/
import Derived.Test.YtpeieokmafpaiabSpW
import Derived.Test.YtpeieokmafpaiabEvF
namespace Go.Proofs.Ytpeieokmafpaiab
set_option linter.unusedSimpArgs false
set_option linter.unusedVariables false
open Go.ChangeShapes Go.WideShapes Go.ChangeAt Go.RowKit

def bvI (a : Int) : B64 := BitVec.ofNat 64 a.toNat
def spanV (l : List Value) : Option Tn :=
  match l with
  | [.int .u64 a, .int .u64 b] => match decide (ub (bvI a) = a) && decide (ub (bvI b) = b) with
    | true => some (bvI a, bvI b)
    | false => none
  | _ => none
def aluV (args : List Value) : Option Value :=
  match args with
  | [.int .i64 op, .bool c, .agg ⟨a⟩, .agg ⟨b⟩] => match spanV a, spanV b with
    | some x, some y => some (.tuple #[tv (aluT op c x y), .int .i64 (aluE op x y)])
    | _, _ => none
  | _ => none
def aluOr (fid : Nat) : FuncId → List Value → Option Value := fun f args => match Nat.beq f fid with
  | true => aluV args
  | false => none
theorem spanV_some {l : List Value} {x : Tn} (h : spanV l = some x) : l = [.int .u64 (ub x.1), .int .u64 (ub x.2)] := by
  unfold spanV at h
  split at h
  · rename_i a b
    split at h
    · rename_i hd
      rw [Bool.and_eq_true, decide_eq_true_eq, decide_eq_true_eq] at hd
      obtain rfl := Option.some.inj h
      dsimp only
      rw [hd.1, hd.2]
    · cases h
  · cases h
theorem aluV_some {args : List Value} {v : Value} (h : aluV args = some v) : ∃ op c x y, args = [.int .i64 op, .bool c, tv x, tv y] ∧ v = .tuple #[tv (aluT op c x y), .int .i64 (aluE op x y)] := by
  unfold aluV at h
  split at h
  · rename_i op c a b
    split at h
    · rename_i x y hx hy
      obtain rfl := Option.some.inj h
      have e1 := spanV_some hx
      have e2 := spanV_some hy
      subst e1 e2
      exact ⟨op, c, x, y, rfl, rfl⟩
    · cases h
  · cases h
theorem tv_fix (η : Ev.Env) (x : Tn) : Ev.rV η (tv x) = tv x := by unfold tv; simp
theorem aluOr_ok (f : FuncId) (args : List Value) (v : Value) (h : aluOr 4 f args = some v) :
    (∀ η, args.map (Ev.rV η) = args) ∧ (∀ η, Ev.rV η v = v) ∧ ∀ W : World, 0 ≤ W.heap.size → Calls Try.prog f args.toArray W fun e W' => e = .returned v ∧ Below W.heap.size W W' := by
  unfold aluOr at h
  split at h
  · rename_i hf
    obtain rfl : f = 4 := Nat.eq_of_beq_eq_true hf
    obtain ⟨op, c, x, y, rfl, rfl⟩ := aluV_some h
    refine ⟨fun η => ?_, fun η => ?_, fun W _ => sAlu_any op c x y W⟩
    · simp only [List.map_cons, List.map_nil, Ev.rV_int, Ev.rV_bool, tv_fix]
    · simp [tv_fix]
  · cases h
/-- Alu's answers, and that the laws' own wakes is true. -/
def knOr (fid wid : Nat) : FuncId → List Value → Option Value := fun f args => match aluOr fid f args with
  | some v => some v
  | none => match Nat.beq f wid with
    | true => match args with
      | [] => some (.bool true)
      | _ => none
    | false => none
theorem knOr_ok (f : FuncId) (args : List Value) (v : Value) (h : knOr 4 8 f args = some v) :
    (∀ η, args.map (Ev.rV η) = args) ∧ (∀ η, Ev.rV η v = v) ∧ ∀ W : World, 0 ≤ W.heap.size → Calls Try.prog f args.toArray W fun e W' => e = .returned v ∧ Below W.heap.size W W' := by
  unfold knOr at h
  split at h
  · rename_i u hu
    obtain rfl := Option.some.inj h
    exact aluOr_ok f args _ hu
  · split at h
    · rename_i hf
      obtain rfl : f = 8 := Nat.eq_of_beq_eq_true hf
      split at h
      · obtain rfl := Option.some.inj h
        exact ⟨fun _ => rfl, fun η => by simp, fun W _ => wakes_true W⟩
      · cases h
    · cases h
end Go.Proofs.Ytpeieokmafpaiab
