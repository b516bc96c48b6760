/-
  What is wrong with an image, plainly.
-/
import Derived.Test.YtdnkikgfiganaaaDoorShC
namespace Go.Proofs.YtdnkikgfiganaaaDoor
set_option linter.unusedSimpArgs false
set_option linter.unusedVariables false
open Go.ChangeShapes Go.WideShapes Go.ChangeAt Go.RowKit

def nextI (c : List I5) (k : Nat) : Option I5 := c[k + 1]?
def alE (maps : Int) (c : List I5) (k : Nat) : Int := aloneE maps (at5 c k) (nextI c k)
/-- Is there, among the first k places, an instruction that begins and is p? The first such. -/
def firstB (c : List I5) (p : Nat → Bool) (k : Nat) : Option Nat := (begsTo c k).find? p
def tgI (c : List I5) (k : Nat) : Int := (k : Int) + 1 + (at5 c k).off
def goesB (c : List I5) (k : Nat) : Bool := decide (0 ≤ tgI c k) && (decide (tgI c k < c.length) && stB c (tgI c k).toNat)
def jmpB (c : List I5) (k : Nat) : Bool := ((at5 c k).t.cls == 6 || (at5 c k).t.cls == 7) && !goesB c k
def lastB (c : List I5) : Nat := (begsTo c c.length).getLastD 0
def endB (cls : Int) : Bool := cls == 7 || cls == 9
def leadI (c : List I5) : Int × Int := match firstB c (jmpB c) c.length with
  | some k => (k, 24)
  | none => if endB (at5 c (lastB c)).t.cls then (0, 0) else (lastB c, 25)
def badM (l : List M4) : Option Nat := (List.range l.length).find? fun k => !mayB (l.getD k ⟨0, 0, 0, 0⟩)
def chkI (l : List M4) (c : List I5) : Int × Int :=
  if c.length = 0 then (0, 4) else if 512 < c.length ∨ 4 < l.length then (0, 3) else
  match badM l with
  | some k => (k, 26)
  | none => match firstB c (fun k => alE l.length c k != 0) c.length with
    | some k => (k, alE l.length c k)
    | none => leadI c

theorem find_snoc_none {p : Nat → Bool} {l : List Nat} {x : Nat} (h : l.find? p = none) (hx : p x = false) : (l ++ [x]).find? p = none := by
  rw [List.find?_append, h]
  simp [hx]
theorem find_snoc_some {p : Nat → Bool} {l : List Nat} {x : Nat} (h : l.find? p = none) (hx : p x = true) : (l ++ [x]).find? p = some x := by
  rw [List.find?_append, h]
  simp [hx]
theorem begsTo_pre (c : List I5) {k n : Nat} (h : k ≤ n) : ∃ r, begsTo c n = begsTo c k ++ r := by
  induction n with
  | zero => exact ⟨[], by rw [show k = 0 by omega]; simp⟩
  | succ n ih =>
    by_cases e : k = n + 1
    · exact ⟨[], by rw [e]; simp⟩
    · obtain ⟨r, hr⟩ := ih (by omega)
      exact ⟨r ++ if stB c n then [n] else [], by rw [begsTo_succ, hr, List.append_assoc]⟩
theorem firstB_mono {c : List I5} {p : Nat → Bool} {k j n : Nat} (h : firstB c p k = some j) (hn : k ≤ n) : firstB c p n = some j := by
  obtain ⟨r, hr⟩ := begsTo_pre c hn
  unfold firstB at h ⊢
  rw [hr, List.find?_append, h]
  rfl
/-- The first one is found at the place at which it is met. -/
theorem firstB_at {c : List I5} {p : Nat → Bool} {k n : Nat} (h : ∀ j, j < k → stB c j = true → p j = false) (hs : stB c k = true) (hp : p k = true) (hn : k < n) : firstB c p n = some k := by
  have h1 : firstB c p k = none := by
    unfold firstB
    rw [List.find?_eq_none]
    intro j hj
    obtain ⟨a, b⟩ := mem_begsTo.1 hj
    simp [h j a b]
  have h2 : firstB c p (k + 1) = some k := by
    unfold firstB at h1 ⊢
    rw [begsTo_succ, if_pos hs]
    exact find_snoc_some h1 hp
  exact firstB_mono h2 (by omega)
theorem firstB_none {c : List I5} {p : Nat → Bool} {n : Nat} : firstB c p n = none ↔ ∀ j, j < n → stB c j = true → p j = false := by
  unfold firstB
  rw [List.find?_eq_none]
  constructor
  · intro h j hj hs
    simpa using h j (mem_begsTo.2 ⟨hj, hs⟩)
  · intro h j hj
    obtain ⟨a, b⟩ := mem_begsTo.1 hj
    simp [h j a b]
theorem firstB_some {c : List I5} {p : Nat → Bool} {n k : Nat} : firstB c p n = some k ↔ k < n ∧ stB c k = true ∧ p k = true ∧ ∀ j, j < k → stB c j = true → p j = false := by
  constructor
  · intro h
    have hm := mem_begsTo.1 (List.mem_of_find?_eq_some h)
    have hp := List.find?_some h
    refine ⟨hm.1, hm.2, hp, fun j hj hs => ?_⟩
    cases hq : p j
    · rfl
    · have h1 : firstB c p (j + 1) ≠ none := by
        rw [Ne, firstB_none]
        intro h'
        rw [h' j (by omega) hs] at hq
        cases hq
      cases h2 : firstB c p (j + 1) with
      | none => exact absurd h2 h1
      | some i =>
        have h3 := firstB_mono h2 (show j + 1 ≤ n by omega)
        rw [h] at h3
        have h4 := (mem_begsTo.1 (List.mem_of_find?_eq_some h2)).1
        have : k = i := Option.some.inj h3
        omega
  · rintro ⟨a, b, hp, h⟩
    exact firstB_at h b hp a
end Go.Proofs.YtdnkikgfiganaaaDoor
