/-
  A drawn region gone through by hand, in short steps.
-/
import Derived.Test.YtjcnpjidkimldaaAHrT
namespace Go.Proofs.Ytjcnpjidkimldaa
set_option linter.unusedSimpArgs false
set_option linter.unusedVariables false
set_option maxRecDepth 100000
open Go.ChangeShapes Go.WideShapes Go.ChangeAt Go.RowKit

section
variable {P : Program} {ops : Array Oper} {Q : Exit → Act → World → Prop} {md : Region.Mode} {S : World → Prop}
/-- An operation that yields, in every world that meets S. -/
theorem tq (i : Nat) {d : Nat} {oi : Oper} {v : Value} {fuel : Nat} {listed : Array Bool} {tm : Array Value} {df : List Deferred} {w : World} (hi : ops[i]? = some oi)
    (hy : ∀ w, S w → (execOp (Act.eval ⟨tm, df⟩) oi).run P w = .ok (.value v) w)
    (h : wpAnyH P md ops Q S fuel (listed.setIfInBounds i true) ⟨tm.setIfInBounds d v, df⟩ w)
    (hS : S w := by with_reducible assumption)
    (hd : oi.dst = some d := by rfl) (hs : Region.noSelect ops = true := by kernel_rfl) (hf : Region.free md ops listed i = true := by kernel_rfl) (hr : (Region.ready md ops listed).contains i = true := by kernel_rfl)
    (hQ : ∀ c a w, Q (.panic c) (a.put oi.dst v) w → Q (.panic c) a w := by exact fun _ _ _ h => h) (hw : Region.wanted oi (yielded ops tm) = true := by rfl) : wpAnyH P md ops Q S (fuel + 1) listed ⟨tm, df⟩ w :=
  take_d hi hd hs hf hr hQ (Or.inl ⟨hw, hy⟩) hS h
/-- An operation behind a false guard. -/
theorem ts (i : Nat) {d : Nat} {oi : Oper} {fuel : Nat} {listed : Array Bool} {tm : Array Value} {df : List Deferred} {w : World} (hi : ops[i]? = some oi)
    (h : wpAnyH P md ops Q S fuel (listed.setIfInBounds i true) ⟨tm.setIfInBounds d undef, df⟩ w)
    (hS : S w := by with_reducible assumption)
    (hd : oi.dst = some d := by rfl) (hs : Region.noSelect ops = true := by kernel_rfl) (hf : Region.free md ops listed i = true := by kernel_rfl) (hr : (Region.ready md ops listed).contains i = true := by kernel_rfl)
    (hQ : ∀ c a w, Q (.panic c) (a.put oi.dst undef) w → Q (.panic c) a w := by exact fun _ _ _ h => h) (hw : Region.wanted oi (yielded ops tm) = false := by rfl) : wpAnyH P md ops Q S (fuel + 1) listed ⟨tm, df⟩ w :=
  take_d hi hd hs hf hr hQ (Or.inr ⟨hw, rfl⟩) hS h
end
def ExV : Nat → (List Value → Prop) → Prop
  | 0, p => p []
  | n + 1, p => ∃ u, ExV n (fun l => p (u :: l))
def AllV : Nat → (List Value → Prop) → Prop
  | 0, p => p []
  | n + 1, p => ∀ u, AllV n (fun l => p (u :: l))
theorem AllV.ex : ∀ {n : Nat} {F G E : List Value → Prop}, AllV n (fun l => F l → G l) → ExV n (fun l => F l ∧ E l) → ∃ l, G l ∧ E l
  | 0, _, _, _, a, ⟨f, e⟩ => ⟨[], a f, e⟩
  | n + 1, F, G, E, a, ⟨u, e⟩ => by
    obtain ⟨l, g, k⟩ := AllV.ex (n := n) (F := fun l => F (u :: l)) (G := fun l => G (u :: l)) (E := fun l => E (u :: l)) (a u) e
    exact ⟨u :: l, g, k⟩
theorem s1 {α : Type _} (l : List α) (i : Nat) (a : α) : l.toArray.setIfInBounds i a = (l.set i a).toArray := List.setIfInBounds_toArray l i a
theorem s2 {α : Type _} (l : List α) (a b : α) : (b :: l).set 0 a = a :: l := rfl
theorem s3 {α : Type _} (l : List α) (a b : α) (n : Nat) : (b :: l).set (n + 1) a = b :: l.set n a := rfl
end Go.Proofs.Ytjcnpjidkimldaa
