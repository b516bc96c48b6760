/-
  Plain lists: the registers that an instruction reads, as the code has them and as the document's own list has them.
-/
import Derived.Test.YtkapbeipjjcalaaDoorReadR
namespace Go.Proofs.YtkapbeipjjcalaaDoor
set_option linter.unusedSimpArgs false
set_option linter.unusedVariables false
open Go.ChangeShapes Go.WideShapes Go.ChangeAt Go.RowKit Go.Sort Go.Lib

def chkUse (r : RR) : Bool :=
  (decide (r.cls ≠ 9) || (decide (r.dst ≠ 1) && decide (r.src ≠ 1))) && ((decide (r.cls ≠ 1) && decide (r.cls ≠ 2)) || decide (r.dst = 2)) && decide (r.cls ≠ 0)
theorem use_all : (rowsI.all chkUse) = true := by kernel_rfl
theorem cv_two (u : Int) : cv u = 2 ↔ u = 1 := by
  unfold cv
  by_cases h0 : u = 0
  · subst h0; decide
  by_cases h1 : u = 1
  · subst h1; decide
  by_cases h2 : u = 2
  · subst h2; decide
  simp [h0, h1, h2]
theorem tk_ok {op dst src off imm : Int} (h0 : 0 ≤ op) (h1 : op < 256) (h : tkE (rowI op src imm) dst src off imm = 0) :
    ∃ r, findI op src imm = some r ∧ rowI op src imm = toRw r ∧ chkUse r = true ∧ standB (cv r.dst) dst = true ∧ standB (cv r.src) src = true := by
  have hl := link op src imm h0 h1
  cases hF : findI op src imm with
  | none =>
    rw [hF] at hl
    rw [hl] at h
    have e : tkE (fromR none) dst src off imm = 20 := rfl
    rw [e] at h
    cases h
  | some r =>
    rw [hF] at hl
    have hR : rowI op src imm = toRw r := hl
    have hm : r ∈ rowsI := List.mem_of_find?_eq_some hF
    have hc := use_all
    rw [List.all_eq_true] at hc
    have hu := hc r hm
    refine ⟨r, rfl, hR, hu, ?_⟩
    rw [hR] at h
    unfold tkE at h
    have hcls : (toRw r).cls ≠ 0 := by
      simp only [chkUse, Bool.and_eq_true, decide_eq_true_eq] at hu
      exact hu.2
    rw [if_neg hcls] at h
    by_cases hs : (!(standB (toRw r).dst dst && standB (toRw r).src src)) = true
    · rw [if_pos hs] at h
      cases h
    · have : standB (toRw r).dst dst = true ∧ standB (toRw r).src src = true := by simpa using hs
      exact this
theorem stand_two {n : Int} (h : standB 2 n = true) : n ≤ 10 := by simpa [standB] using h
theorem stand_three {n : Int} (h : standB 3 n = true) : n ≤ 9 := by simpa [standB] using h
theorem readL_congr {p q : Nat → Bool} (h : ∀ n, p n = q n) (k : Nat) : readL p k = readL q k := by rw [show p = q from funext h]
theorem beq_cast (a n : Nat) : (((a : Nat) : Int) == (n : Int)) = (n == a) := by
  by_cases h : a = n
  · subst h; simp
  · have h' : n ≠ a := fun e => h e.symm
    have e1 : ((a : Int) == (n : Int)) = false := by simp; omega
    have e2 : (n == a) = false := by simpa using h'
    rw [e1, e2]
def dBr (r : RR) (T : Rw) : Bool := r.dst == 1 || (T.cls == 1 && T.op != 11) || T.cls == 2
/-- The two lists are one. -/
theorem lists_one {op dst src off imm : Int} (h0 : 0 ≤ op) (h1 : op < 256) (d0 : 0 ≤ dst) (s0 : 0 ≤ src) (h : tkE (rowI op src imm) dst src off imm = 0) {r : RR} (hF : findI op src imm = some r) (p : Nat → Bool)
    (hp : ∀ n : Nat, p n = (dBr r (rowI op src imm) && dst == (n : Int) || (r.src == 1) && src == (n : Int) || ((rowI op src imm).cls == 9) && (n : Int) == 0)) :
    rdList (rowI op src imm) 0 dst src = readL p 11 := by
  obtain ⟨r', hF', hR, hu, hd, hs⟩ := tk_ok h0 h1 h
  obtain rfl : r' = r := Option.some.inj (hF'.symm.trans hF)
  rw [hR] at hp ⊢
  simp only [chkUse, Bool.and_eq_true, Bool.or_eq_true, decide_eq_true_eq] at hu
  obtain ⟨⟨u1, u2⟩, u3⟩ := hu
  unfold rdList
  rw [if_neg (by simp)]
  have hsrc : ((toRw r').src = 2) ↔ r'.src = 1 := cv_two _
  have hdst : ((toRw r').dst = 2) ↔ r'.dst = 1 := cv_two _
  by_cases h9 : (toRw r').cls = 9
  · have h9' : r'.cls = 9 := h9
    rw [if_pos h9]
    rcases u1 with u1 | u1
    · exact absurd h9' u1
    have e1 : dBr r' (toRw r') = false := by
      unfold dBr
      rw [h9]
      simpa using u1.1
    have e2 : (r'.src == 1) = false := by simpa using u1.2
    have e3 : ((toRw r').cls == 9) = true := by simpa using h9
    rw [readL_congr (q := fun n => n == 0) (fun n => by
      rw [hp, e1, e2, e3]
      have := beq_cast n 0
      cases hn : (n == 0)
      · have : ((n : Int) == 0) = false := by simpa using hn
        simp [this]
      · have : ((n : Int) == 0) = true := by simpa using hn
        simp [this]) 11]
    exact (show ([0] : List Int) = readL (fun n => n == 0) 11 by kernel_rfl)
  · rw [if_neg h9]
    have e3 : ((toRw r').cls == 9) = false := by simpa using h9
    have hD : ((toRw r').dst = 2 ∨ altB (toRw r') = true) ↔ dBr r' (toRw r') = true := by
      unfold dBr altB
      rw [hdst]
      simp [or_assoc]
    have hdb : dBr r' (toRw r') = true → dst ≤ 10 := by
      intro hb
      rcases hD.2 hb with a | a
      · have : cv r'.dst = 2 := a
        rw [this] at hd
        exact stand_two hd
      · have hc : r'.cls = 1 ∨ r'.cls = 2 := by
          have : ((toRw r').cls = 1 ∧ (toRw r').op ≠ 11) ∨ (toRw r').cls = 2 := by simpa [altB] using a
          rcases this with ⟨a, _⟩ | a
          · exact .inl a
          · exact .inr a
        have hw : r'.dst = 2 := by
          rcases u2 with u2 | u2
          · rcases hc with hc | hc
            · exact absurd hc u2.1
            · exact absurd hc u2.2
          · exact u2
        rw [hw] at hd
        have : standB 3 dst = true := hd
        have := stand_three this
        omega
    have hsb : r'.src = 1 → src ≤ 10 := by
      intro hb
      have : cv r'.src = 2 := (cv_two _).2 hb
      rw [this] at hs
      exact stand_two hs
    obtain ⟨a, rfl⟩ : ∃ a : Nat, dst = a := ⟨dst.toNat, by omega⟩
    obtain ⟨b, rfl⟩ : ∃ b : Nat, src = b := ⟨src.toNat, by omega⟩
    have T2 := sc_two_t
    have T1 := sc_one_t
    rw [List.all_eq_true] at T1 T2
    cases hb : dBr r' (toRw r')
    · rw [if_neg (fun x => by rw [hD.1 x] at hb; cases hb)]
      by_cases ss : r'.src = 1
      · rw [if_pos (hsrc.2 ss)]
        have hbl := hsb ss
        have t := T1 b (List.mem_range.2 (by omega))
        rw [decide_eq_true_eq] at t
        rw [t]
        have e2 : (r'.src == 1) = true := by simpa using ss
        exact readL_congr (fun n => by rw [hp, hb, e2, e3]; simp [beq_cast]) 11
      · rw [if_neg (fun x => ss (hsrc.1 x))]
        have e2 : (r'.src == 1) = false := by simpa using ss
        rw [← sc_none_t]
        exact readL_congr (fun n => by rw [hp, hb, e2, e3]; simp) 11
    · rw [if_pos (hD.2 hb)]
      have hal := hdb hb
      by_cases ss : r'.src = 1
      · rw [if_pos (hsrc.2 ss)]
        have hbl := hsb ss
        have t := T2 a (List.mem_range.2 (by omega))
        rw [List.all_eq_true] at t
        have t' := t b (List.mem_range.2 (by omega))
        rw [decide_eq_true_eq] at t'
        rw [t']
        have e2 : (r'.src == 1) = true := by simpa using ss
        exact readL_congr (fun n => by rw [hp, hb, e2, e3]; simp [beq_cast]) 11
      · rw [if_neg (fun x => ss (hsrc.1 x))]
        have t := T1 a (List.mem_range.2 (by omega))
        rw [decide_eq_true_eq] at t
        rw [t]
        have e2 : (r'.src == 1) = false := by simpa using ss
        exact readL_congr (fun n => by rw [hp, hb, e2, e3]; simp [beq_cast]) 11
end Go.Proofs.YtkapbeipjjcalaaDoor
