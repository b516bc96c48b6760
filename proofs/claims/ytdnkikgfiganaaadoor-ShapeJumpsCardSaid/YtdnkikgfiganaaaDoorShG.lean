/-
  What follows for an image that is right, plainly.
-/
import Derived.Test.YtdnkikgfiganaaaDoorShL
namespace Go.Proofs.YtdnkikgfiganaaaDoor
set_option linter.unusedSimpArgs false
set_option linter.unusedVariables false
open Go.ChangeShapes Go.WideShapes Go.ChangeAt Go.RowKit

/-- A right image. -/
structure RtI (l : List M4) (c : List I5) : Prop where
  pos : 0 < c.length
  top : c.length ≤ 512
  maps : l.length ≤ 4
  may : badM l = none
  alone : ∀ k, k < c.length → stB c k = true → alE l.length c k = 0
  jump : ∀ k, k < c.length → stB c k = true → jmpB c k = false
  fin : endB (at5 c (lastB c)).t.cls = true
theorem alE_nonneg (m : Int) (x : I5) (r : Option I5) : True := trivial
theorem right_iff (l : List M4) (c : List I5) : (chkI l c).2 = 0 ↔ RtI l c := by
  constructor
  · intro h
    unfold chkI at h
    by_cases h0 : c.length = 0
    · rw [if_pos h0] at h; cases h
    rw [if_neg h0] at h
    by_cases h1 : 512 < c.length ∨ 4 < l.length
    · rw [if_pos h1] at h; cases h
    rw [if_neg h1] at h
    cases hb : badM l with
    | some k => rw [hb] at h; cases h
    | none =>
      rw [hb] at h
      dsimp only at h
      cases hf : firstB c (fun k => alE l.length c k != 0) c.length with
      | some k =>
        rw [hf] at h
        have := (firstB_some.1 hf).2.2.1
        dsimp only at h this
        rw [h] at this
        cases this
      | none =>
        rw [hf] at h
        dsimp only at h
        unfold leadI at h
        cases hj : firstB c (jmpB c) c.length with
        | some k => rw [hj] at h; cases h
        | none =>
          rw [hj] at h
          dsimp only at h
          cases he : endB (at5 c (lastB c)).t.cls with
          | false => rw [he] at h; cases h
          | true =>
            refine ⟨by omega, by omega, by omega, hb, fun k hk hs => ?_, fun k hk hs => firstB_none.1 hj k hk hs, he⟩
            have := firstB_none.1 hf k hk hs
            simpa using this
  · intro h
    unfold chkI
    rw [if_neg (by have := h.pos; omega), if_neg (by have := h.top; have := h.maps; omega), h.may]
    dsimp only
    rw [firstB_none.2 (fun j hj hs => by rw [h.alone j hj hs]; rfl)]
    dsimp only
    unfold leadI
    rw [firstB_none.2 h.jump]
    dsimp only
    rw [h.fin]
    rfl

theorem alone_zero {m : Int} {x : I5} {r : Option I5} (h : aloneE m x r = 0) : x.e = 0 ∧ (x.p = 2 → wholeB x.t.cls r = true) ∧ (x.t.cls = 11 → 0 ≤ x.imm ∧ x.imm < m) ∧ (x.t.cls = 8 → helpB x.imm = true) := by
  unfold aloneE at h
  by_cases he : x.e = 0
  · rw [if_neg (by simpa using he)] at h
    by_cases h1 : x.p = 2 ∧ wholeB x.t.cls r = false
    · rw [if_pos h1] at h; cases h
    rw [if_neg h1] at h
    by_cases h2 : x.t.cls = 11 ∧ (x.imm < 0 ∨ m ≤ x.imm)
    · rw [if_pos h2] at h; cases h
    rw [if_neg h2] at h
    by_cases h3 : x.t.cls = 8 ∧ helpB x.imm = false
    · rw [if_pos h3] at h; cases h
    refine ⟨he, fun hp => ?_, fun hc => ?_, fun hc => ?_⟩
    · cases hw : wholeB x.t.cls r
      · exact absurd ⟨hp, hw⟩ h1
      · rfl
    · by_cases i0 : x.imm < 0
      · exact absurd ⟨hc, .inl i0⟩ h2
      by_cases i1 : m ≤ x.imm
      · exact absurd ⟨hc, .inr i1⟩ h2
      omega
    · cases hw : helpB x.imm
      · exact absurd ⟨hc, hw⟩ h3
      · rfl
  · rw [if_pos he] at h
    exact absurd h he
theorem p_two (x : I5) (h : x.e = 0) : x.p = if x.t.cls = 10 ∨ x.t.cls = 11 then 2 else 1 := by
  have h' : uE x.op x.dst x.src x.off x.imm = 0 := h
  unfold I5.p uP
  rw [if_neg (by simpa using h')]
  show (if x.t.cls = 10 then (2 : Int) else if x.t.cls = 11 then 2 else 1) = _
  by_cases a : x.t.cls = 10
  · rw [if_pos a, if_pos (.inl a)]
  by_cases b : x.t.cls = 11
  · rw [if_neg a, if_pos b, if_pos (.inr b)]
  · rw [if_neg a, if_neg b, if_neg (by intro h; exact h.elim a b)]
theorem last_at {c : List I5} {k : Nat} (hs : stB c k = true) (hk : k < c.length) (h : c.length ≤ k + stepN (at5 c k)) : lastB c = k := by
  have h1 := begsTo_min hs hk
  rw [Nat.min_eq_right h] at h1
  unfold lastB
  rw [← h1]
  simp
theorem goes_next {l : List M4} {c : List I5} (h : RtI l c) {k : Nat} (hk : k < c.length) (hs : stB c k = true) (h7 : (at5 c k).t.cls ≠ 7) (h9 : (at5 c k).t.cls ≠ 9) :
    k + stepN (at5 c k) < c.length ∧ stB c (k + stepN (at5 c k)) = true := by
  refine ⟨?_, (stB_next hs).1⟩
  by_cases hn : k + stepN (at5 c k) < c.length
  · exact hn
  · have hl := last_at hs hk (by omega)
    have := h.fin
    rw [hl] at this
    unfold endB at this
    simp [h7, h9] at this
theorem goes_jump {l : List M4} {c : List I5} (h : RtI l c) {k : Nat} (hk : k < c.length) (hs : stB c k = true) (h6 : (at5 c k).t.cls = 6 ∨ (at5 c k).t.cls = 7) :
    ∃ q : Nat, tgI c k = q ∧ q < c.length ∧ stB c q = true := by
  have hj := h.jump k hk hs
  unfold jmpB at hj
  have hg : goesB c k = true := by
    rcases h6 with e | e <;> rw [e] at hj <;> simpa using hj
  unfold goesB at hg
  simp only [Bool.and_eq_true, decide_eq_true_eq] at hg
  obtain ⟨a, b, d⟩ := hg
  exact ⟨(tgI c k).toNat, by omega, by omega, d⟩
end Go.Proofs.YtdnkikgfiganaaaDoor
