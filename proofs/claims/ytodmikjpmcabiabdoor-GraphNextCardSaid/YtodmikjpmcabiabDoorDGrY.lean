/-
  Plain: to what a place leads, as the document finds it and as the code does.
-/
import Derived.Test.YtodmikjpmcabiabDoorDGrX
import Derived.Test.YtodmikjpmcabiabDoorDGrU
namespace Go.Proofs.YtodmikjpmcabiabDoor
set_option linter.unusedSimpArgs false
set_option linter.unusedVariables false
set_option maxRecDepth 100000
open Go.ChangeShapes Go.WideShapes Go.ChangeAt Go.RowKit

def addG (st : Nat → Bool) (n : Nat) (L : List Int) (t : Int) : List Int := if decide (0 ≤ t) && (decide (t < n) && st t.toNat) then L ++ [t] else L
def filM (P : Nat → Bool) (n : Nat) : List Int := ((List.range n).filter P).map fun (b : Nat) => (b : Int)
theorem filM_succ (P : Nat → Bool) (n : Nat) : filM P (n + 1) = filM P n ++ (if P n then [(n : Int)] else []) := by
  unfold filM
  rw [List.range_succ, List.filter_append, List.map_append]
  congr 1
  cases h : P n <;> simp [h]
theorem filM_congr {P Q : Nat → Bool} {n : Nat} (h : ∀ b, b < n → P b = Q b) : filM P n = filM Q n := by
  induction n with
  | zero => rfl
  | succ n ih => rw [filM_succ, filM_succ, ih (fun b hb => h b (by omega)), h n (by omega)]
theorem filM_none (n : Nat) : filM (fun _ => false) n = [] := by
  induction n with
  | zero => rfl
  | succ n ih => rw [filM_succ, ih]; rfl
theorem filM_one (st : Nat → Bool) (t : Int) (n : Nat) : filM (fun b => ((b : Int) == t) && st b) n = addG st n [] t := by
  induction n with
  | zero =>
    unfold addG
    rw [if_neg (by simp; omega)]; rfl
  | succ n ih =>
    rw [filM_succ, ih]
    unfold addG
    by_cases h : t = n
    · subst h
      have h1 : ((0 : Int) ≤ n) := by omega
      have h2 : ((n : Int) < (n + 1 : Nat)) := by omega
      have h3 : ((n : Int) < (n : Int) + 1) := by omega
      simp [h1, h3]
    · have e : ((n : Int) == t) = false := by simpa using fun q => h q.symm
      rw [e]
      have : decide (t < (n + 1 : Nat)) = decide (t < (n : Nat)) := by
        rw [decide_eq_decide]; omega
      rw [this]
      simp
theorem filM_two (st : Nat → Bool) (x y : Int) (h : x < y) (n : Nat) : filM (fun b => (((b : Int) == x) || ((b : Int) == y)) && st b) n = addG st n (addG st n [] x) y := by
  induction n with
  | zero =>
    unfold addG
    rw [if_neg (by simp; omega), if_neg (by simp; omega)]; rfl
  | succ n ih =>
    rw [filM_succ, ih]
    by_cases hy : y = n
    · subst hy
      have e : ((n : Int) == x) = false := by simp; omega
      have h1 : ((0 : Int) ≤ n) := by omega
      have ex : addG st (n + 1) [] x = addG st n [] x := by
        unfold addG
        have : decide (x < (n + 1 : Nat)) = decide (x < (n : Nat)) := by
          rw [decide_eq_decide]; omega
        rw [this]
      rw [ex]
      generalize addG st n [] x = L
      unfold addG
      simp [e]
      have h2 : ((n : Int) < (n : Int) + 1) := by omega
      simp [h2]
      cases st n <;> simp
    · have ey : ((n : Int) == y) = false := by simpa using fun q => hy q.symm
      have ty : decide (y < (n + 1 : Nat)) = decide (y < (n : Nat)) := by
        rw [decide_eq_decide]; omega
      by_cases hx : x = n
      · subst hx
        have q1 : addG st n [] (n : Int) = [] := by unfold addG; rw [if_neg (by simp)]
        have q2 : ∀ L, addG st n L y = L := fun L => by unfold addG; rw [if_neg (by simp; omega)]
        have q3 : ∀ L, addG st (n + 1) L y = L := fun L => by
          unfold addG
          rw [if_neg (by simp; omega)]
        rw [q1, q2, q3]
        unfold addG
        simp
        have h2 : ((n : Int) < (n : Int) + 1) := by omega
        simp [h2]
      · have ex : ((n : Int) == x) = false := by simpa using fun q => hx q.symm
        have tx : decide (x < (n + 1 : Nat)) = decide (x < (n : Nat)) := by
          rw [decide_eq_decide]; omega
        unfold addG
        rw [tx, ty, ex, ey]
        simp
theorem c2_one (st : Nat → Bool) (n : Nat) (t : Int) : c2L (s2 (addG st n [] t)) = addG st n [] t := by
  unfold addG
  split <;> rfl
theorem c2_two (st : Nat → Bool) (n : Nat) (x y : Int) (h : x < y) : c2L (s2 (addG st n (addG st n [] x) y)) = addG st n (addG st n [] x) y := by
  unfold addG
  split <;> split <;> simp [s2, c2L] <;> (try omega)
  rw [if_neg (by omega)]
  simp [c2L]; omega
theorem c2_back (st : Nat → Bool) (n : Nat) (x y : Int) (h : y < x) : c2L (s2 (addG st n (addG st n [] x) y)) = addG st n (addG st n [] y) x := by
  unfold addG
  split <;> split <;> simp [s2, c2L, *] <;> (try omega)
theorem c2_same (st : Nat → Bool) (n : Nat) (x : Int) : c2L (s2 (addG st n (addG st n [] x) x)) = addG st n [] x := by
  unfold addG
  split <;> simp [s2, c2L, *]
theorem next_plain (st : Nat → Bool) (n a : Nat) (far cls e p : Int) (ha : st a = true) (hp : e = 0 → p = if cls = 10 then 2 else if cls = 11 then 2 else 1) :
    c2L (s2 (if e ≠ 0 ∨ cls = 9 then [] else if cls = 7 then addG st n [] far else if cls = 6 then addG st n (addG st n [] ((a : Int) + 1)) far else addG st n [] ((a : Int) + p)))
      = filM (fun b => ((b : Int) == (a : Int) + 1 || ((b : Int) == (a : Int) + 2 || (b : Int) == far)) && (st a && (st b && (e == 0 && ldB cls a b far)))) n := by
  rw [ha]
  by_cases he : e = 0
  · rw [hp he]
    clear hp
    subst he
    by_cases h9 : cls = 9
    · subst h9
      rw [if_pos (.inr rfl), filM_congr (Q := fun _ => false) (by intro b hb; simp [ldB]), filM_none]; rfl
    rw [if_neg (by simp [h9])]
    by_cases h7 : cls = 7
    · subst h7
      rw [if_pos rfl, c2_one, ← filM_one, filM_congr]
      intro b hb
      simp [ldB]
      cases st b <;> simp
      intro q; simp [q]
    rw [if_neg h7]
    by_cases h6 : cls = 6
    · subst h6
      rw [if_pos rfl]
      rw [filM_congr (Q := fun b => (((b : Int) == (a : Int) + 1) || ((b : Int) == far)) && st b) (by
        intro b hb
        simp [ldB]
        cases h1 : ((b : Int) == (a : Int) + 1) <;> cases h2 : ((b : Int) == far) <;> cases st b <;> simp)]
      rcases Int.lt_trichotomy ((a : Int) + 1) far with h | h | h
      · rw [c2_two _ _ _ _ h, filM_two _ _ _ h]
      · subst h
        rw [c2_same, ← filM_one, filM_congr]
        intro b hb; simp
      · rw [c2_back _ _ _ _ h, ← filM_two _ _ _ h, filM_congr]
        intro b hb
        rw [Bool.or_comm]
    rw [if_neg h6, c2_one, ← filM_one, filM_congr]
    intro b hb
    by_cases h10 : cls = 10
    · subst h10; simp [ldB]
      cases st b <;> simp
      intro q; simp [q]
    by_cases h11 : cls = 11
    · subst h11; simp [ldB]
      cases st b <;> simp
      intro q; simp [q]
    · simp [ldB, h9, h7, h6, h10, h11]
      cases st b <;> simp
      intro q; simp [q]
  · rw [if_pos (.inl he), filM_congr (Q := fun _ => false) (by intro b hb; simp [he]), filM_none]; rfl
theorem nextG_rnxt (c : List I5) (a : Int) : nextG c a = rnxt c a := by
  unfold nextG rnxt
  by_cases h0 : 0 ≤ a ∧ a < c.length
  · rw [if_pos h0]
    cases hs : stB c a.toNat
    · rw [if_neg (by simp)]
      have : rnU c a.toNat c.length = filM (fun _ => false) c.length := filM_congr (P := fun b => farB c a.toNat b && leadB c a.toNat b) (by intro b _; unfold leadB; rw [hs]; simp)
      rw [this, filM_none]
    · rw [if_pos ⟨h0.1, h0.2, rfl⟩]
      have := next_plain (stB c) c.length a.toNat (tgG c a.toNat) (at5 c a.toNat).t.cls (at5 c a.toNat).e (at5 c a.toNat).p hs (by
        intro he
        unfold I5.p uP
        rw [if_neg (fun h => h he)]
        rfl)
      exact this
  · rw [if_neg h0, if_neg (by rintro ⟨h1, h2, _⟩; exact h0 ⟨h1, h2⟩)]
end Go.Proofs.YtodmikjpmcabiabDoor
