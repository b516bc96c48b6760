/-
  A drawn region gone through by hand.
-/
import Derived.Test.YtolpgcoebmboeaaImG
namespace Go.Proofs.Ytolpgcoebmboeaa
set_option linter.unusedSimpArgs false
set_option linter.unusedVariables false
open Go.ChangeShapes Go.WideShapes Go.ChangeAt Go.RowKit

theorem take_d {P : Program} {ops : Array Oper} {Q : Exit → Act → World → Prop} {md : Region.Mode} {S : World → Prop} {i d : Nat} {oi : Oper} {v : Value} {fuel : Nat} {listed : Array Bool} {tm : Array Value} {df : List Deferred} {w : World} (hi : ops[i]? = some oi) (hd : oi.dst = some d)
    (hs : Region.noSelect ops = true) (hf : Region.free md ops listed i = true) (hr : (Region.ready md ops listed).contains i = true)
    (hQ : ∀ c a w, Q (.panic c) (a.put oi.dst v) w → Q (.panic c) a w) (hy : YieldsIf P ops S oi v ⟨tm, df⟩) (hS : S w)
    (h : wpAnyH P md ops Q S fuel (listed.setIfInBounds i true) ⟨tm.setIfInBounds d v, df⟩ w) : wpAnyH P md ops Q S (fuel + 1) listed ⟨tm, df⟩ w := by
  refine wpAnyH_take hi hs hf hr hQ hy hS ?_
  rw [hd]
  exact h
section
variable {P : Program} {ops : Array Oper} {Q : Exit → Act → World → Prop} {md : Region.Mode} {S : World → Prop}
/-- An operation that yields, in every world that meets S. -/
theorem tq (i : Nat) {d : Nat} {oi : Oper} {v : Value} {fuel : Nat} {listed : Array Bool} {tm : Array Value} {df : List Deferred} {w : World} (hi : ops[i]? = some oi)
    (hy : ∀ w, S w → (execOp (Act.eval ⟨tm, df⟩) oi).run P w = .ok (.value v) w)
    (h : wpAnyH P md ops Q S fuel (listed.setIfInBounds i true) ⟨tm.setIfInBounds d v, df⟩ w)
    (hS : S w := by with_reducible assumption)
    (hd : oi.dst = some d := by rfl) (hs : Region.noSelect ops = true := by kernel_rfl) (hf : Region.free md ops listed i = true := by kernel_rfl) (hr : (Region.ready md ops listed).contains i = true := by kernel_rfl)
    (hQ : ∀ c a w, Q (.panic c) (a.put oi.dst v) w → Q (.panic c) a w := by exact fun _ _ _ h => h) (hw : Region.wanted oi (yielded ops tm) = true := by rfl) : wpAnyH P md ops Q S (fuel + 1) listed ⟨tm, df⟩ w :=
  take_d hi hd hs hf hr hQ (Or.inl ⟨hw, hy⟩) hS h
/-- An operation behind a false guard. -/
theorem ts (i : Nat) {d : Nat} {oi : Oper} {fuel : Nat} {listed : Array Bool} {tm : Array Value} {df : List Deferred} {w : World} (hi : ops[i]? = some oi)
    (h : wpAnyH P md ops Q S fuel (listed.setIfInBounds i true) ⟨tm.setIfInBounds d undef, df⟩ w)
    (hS : S w := by with_reducible assumption)
    (hd : oi.dst = some d := by rfl) (hs : Region.noSelect ops = true := by kernel_rfl) (hf : Region.free md ops listed i = true := by kernel_rfl) (hr : (Region.ready md ops listed).contains i = true := by kernel_rfl)
    (hQ : ∀ c a w, Q (.panic c) (a.put oi.dst undef) w → Q (.panic c) a w := by exact fun _ _ _ h => h) (hw : Region.wanted oi (yielded ops tm) = false := by rfl) : wpAnyH P md ops Q S (fuel + 1) listed ⟨tm, df⟩ w :=
  take_d hi hd hs hf hr hQ (Or.inr ⟨hw, rfl⟩) hS h
end
/-- What is behind a piece of code is walked once: the slots that it writes are any values, of which F tells what is known. -/
def CutV (R : Act → World → Prop) : Exit → Act → World → Prop
  | .normal, a, w => R a w
  | _, _, _ => False
theorem CutV.imp {R : Act → World → Prop} {Q : Exit → Act → World → Prop} (h : ∀ a w, R a w → Q .normal a w) : ∀ e a w, CutV R e a w → Q e a w := fun e a w hr => by
  cases e <;> first | exact h a w hr | exact hr.elim
def sets : Array Value → List Nat → List Value → Array Value
  | tm, d :: ds, u :: us => sets (tm.setIfInBounds d u) ds us
  | tm, _, _ => tm
def ExV : Nat → (List Value → Prop) → Prop
  | 0, p => p []
  | n + 1, p => ∃ u, ExV n (fun l => p (u :: l))
def AllV : Nat → (List Value → Prop) → Prop
  | 0, p => p []
  | n + 1, p => ∀ u, AllV n (fun l => p (u :: l))
theorem AllV.ex : ∀ {n : Nat} {F G E : List Value → Prop}, AllV n (fun l => F l → G l) → ExV n (fun l => F l ∧ E l) → ∃ l, G l ∧ E l
  | 0, _, _, _, a, ⟨f, e⟩ => ⟨[], a f, e⟩
  | n + 1, F, G, E, a, ⟨u, e⟩ => by
    obtain ⟨l, g, k⟩ := AllV.ex (n := n) (F := fun l => F (u :: l)) (G := fun l => G (u :: l)) (E := fun l => E (u :: l)) (a u) e
    exact ⟨u :: l, g, k⟩
def CutW (L : List Nat) (F : List Value → World → Prop) (tm : Array Value) (df : List Deferred) : Exit → Act → World → Prop := CutV fun a' W' => ExV L.length fun us => F us W' ∧ a' = ⟨sets tm L us, df⟩
theorem cutS {P : Program} {c : Code} {Q : Exit → Act → World → Prop} {tm : Array Value} {df : List Deferred} {w : World} (L : List Nat) (F : List Value → World → Prop)
    (h1 : Code.wp P c (CutW L F tm df) ⟨tm, df⟩ w)
    (h2 : ∀ W, AllV L.length fun us => F us W → Q .normal ⟨sets tm L us, df⟩ W) : Code.wp P c Q ⟨tm, df⟩ w := by
  refine Code.wp_mono (Q := CutW L F tm df) (CutV.imp fun a' W' h => ?_) h1
  obtain ⟨l, g, rfl⟩ := (h2 W').ex h
  exact g
theorem ExV.mk : ∀ {n : Nat} {p : List Value → Prop} (l : List Value), l.length = n → p l → ExV n p
  | 0, _, [], _, h => h
  | n + 1, p, u :: l, hl, h => ⟨u, ExV.mk (n := n) (p := fun l => p (u :: l)) l (Nat.succ.inj hl) h⟩
theorem cutEnd {L : List Nat} {F : List Value → World → Prop} {tm lit : Array Value} {df : List Deferred} {w : World} (hF : F (L.map fun d => lit.getD d undef) w) (he : lit = sets tm L (L.map fun d => lit.getD d undef)) :
    CutW L F tm df .normal ⟨lit, df⟩ w :=
  ExV.mk _ (by simp) ⟨hF, by rw [← he]⟩
theorem s1 {α : Type _} (l : List α) (i : Nat) (a : α) : l.toArray.setIfInBounds i a = (l.set i a).toArray := List.setIfInBounds_toArray l i a
theorem s2 {α : Type _} (l : List α) (a b : α) : (b :: l).set 0 a = a :: l := rfl
theorem s3 {α : Type _} (l : List α) (a b : α) (n : Nat) : (b :: l).set (n + 1) a = b :: l.set n a := rfl
end Go.Proofs.Ytolpgcoebmboeaa
