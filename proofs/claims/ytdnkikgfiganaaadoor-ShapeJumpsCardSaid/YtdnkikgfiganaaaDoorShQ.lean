/-
  A right image with one more instruction, or one more map, plainly.
-/
import Derived.Test.YtdnkikgfiganaaaDoorShG
import Derived.Test.YtdnkikgfiganaaaDoorShW
namespace Go.Proofs.YtdnkikgfiganaaaDoor
set_option linter.unusedSimpArgs false
set_option linter.unusedVariables false
open Go.ChangeShapes Go.WideShapes Go.ChangeAt Go.RowKit

theorem at5_app {c d : List I5} {k : Nat} (h : k < c.length) : at5 (c ++ d) k = at5 c k := by
  unfold at5
  rw [List.getD_eq_getElem?_getD, List.getD_eq_getElem?_getD, List.getElem?_append_left h]
theorem at5_end {c : List I5} {x : I5} : at5 (c ++ [x]) c.length = x := by
  unfold at5
  rw [List.getD_eq_getElem?_getD, List.getElem?_append_right (Nat.le_refl _)]
  simp
theorem hf_app {c d : List I5} : ∀ {k : Nat}, k ≤ c.length → hf (c ++ d) k = hf c k
  | 0, _ => rfl
  | k + 1, h => by rw [hf, hf, hf_app (Nat.le_of_succ_le h), at5_app h]
theorem stB_app {c d : List I5} {k : Nat} (h : k ≤ c.length) : stB (c ++ d) k = stB c k := by unfold stB; rw [hf_app h]
/-- There is a last one. -/
theorem last_is {c : List I5} (h : 0 < c.length) : ∃ k, k < c.length ∧ stB c k = true ∧ c.length ≤ k + stepN (at5 c k) := by
  have main : ∀ n k, c.length - k ≤ n → k < c.length → stB c k = true → ∃ k, k < c.length ∧ stB c k = true ∧ c.length ≤ k + stepN (at5 c k) := by
    intro n
    induction n with
    | zero => intro k h1 h2 _; omega
    | succ n ih =>
      intro k h1 h2 hs
      by_cases hn : c.length ≤ k + stepN (at5 c k)
      · exact ⟨k, h2, hs, hn⟩
      · have := stepN_pos (at5 c k)
        exact ih _ (by omega) (by omega) (stB_next hs).1
  exact main _ 0 (Nat.le_refl _) h rfl
theorem end_step {c : List I5} (h : 0 < c.length) (he : endB (at5 c (lastB c)).t.cls = true) (h0 : (at5 c (lastB c)).e = 0) : lastB c + 1 = c.length ∧ stB c (lastB c) = true := by
  obtain ⟨k, hk, hs, hn⟩ := last_is h
  have hl := last_at hs hk hn
  rw [hl] at he h0 ⊢
  have hp := p_two (at5 c k) h0
  have hc : ¬((at5 c k).t.cls = 10 ∨ (at5 c k).t.cls = 11) := by
    unfold endB at he
    simp only [Bool.or_eq_true, beq_iff_eq] at he
    omega
  rw [if_neg hc] at hp
  have hst : stepN (at5 c k) = 1 := by unfold stepN; rw [hp]; decide
  rw [hst] at hn
  exact ⟨by omega, hs⟩
theorem aloneE_more {m m' : Int} {x : I5} {r r' : Option I5} (h : aloneE m x r = 0) (hm : m ≤ m') (hr : r = none ∨ r' = r) : aloneE m' x r' = 0 := by
  obtain ⟨h1, h2, h3, h4⟩ := alone_zero h
  unfold aloneE
  rw [if_neg (by simpa using h1), if_neg, if_neg, if_neg]
  · rintro ⟨a, b⟩
    rw [h4 a] at b
    cases b
  · rintro ⟨a, b⟩
    have := h3 a
    omega
  · rintro ⟨a, b⟩
    have := h2 a
    rcases hr with rfl | rfl
    · cases this
    · rw [this] at b; cases b
theorem xI_e : xI.e = 0 := by kernel_rfl
theorem xI_cls : xI.t.cls = 9 := by kernel_rfl
theorem xI_alone (m : Int) (r : Option I5) : aloneE m xI r = 0 := by
  unfold aloneE
  have hp : xI.p = 1 := by kernel_rfl
  rw [if_neg (by rw [xI_e]; simp), if_neg (by rw [hp]; omega), if_neg (by rw [xI_cls]; omega), if_neg (by rw [xI_cls]; omega)]
/-- One more Exit. -/
theorem right_exit {l : List M4} {c : List I5} (h : RtI l c) (ht : c.length + 1 ≤ 512) : RtI l (c ++ [xI]) := by
  have he0 := (alone_zero (h.alone _ (lastB_lt h.pos) (mem_begsTo.1 (lastB_mem h.pos)).2)).1
  obtain ⟨e1, e2⟩ := end_step h.pos h.fin he0
  have hend : stB (c ++ [xI]) c.length = true := by
    rw [stB_app (Nat.le_refl _), ← e1]
    have hc : stepN (at5 c (lastB c)) = 1 := by
      have hp := p_two _ he0
      have hf := h.fin
      unfold endB at hf
      simp only [Bool.or_eq_true, beq_iff_eq] at hf
      rw [if_neg (by omega)] at hp
      unfold stepN; rw [hp]; decide
    have := (stB_next e2).1
    rw [hc] at this
    exact this
  have hlen : (c ++ [xI]).length = c.length + 1 := by simp
  refine ⟨by omega, by omega, h.maps, h.may, fun k hk hs => ?_, fun k hk hs => ?_, ?_⟩
  · by_cases e : k = c.length
    · subst e
      unfold alE
      rw [at5_end]
      exact xI_alone _ _
    · have hk' : k < c.length := by omega
      rw [stB_app (by omega)] at hs
      have ha := h.alone k hk' hs
      unfold alE at ha ⊢
      rw [at5_app hk']
      refine aloneE_more ha (Int.le_refl _) ?_
      unfold nextI
      by_cases e2 : k + 1 < c.length
      · exact .inr (List.getElem?_append_left e2)
      · exact .inl (List.getElem?_eq_none (by omega))
  · by_cases e : k = c.length
    · subst e
      unfold jmpB
      rw [at5_end, xI_cls]
      rfl
    · have hk' : k < c.length := by omega
      rw [stB_app (by omega)] at hs
      have hj := h.jump k hk' hs
      unfold jmpB at hj ⊢
      rw [at5_app hk']
      cases hcl : ((at5 c k).t.cls == 6 || (at5 c k).t.cls == 7)
      · rfl
      · rw [hcl] at hj
        have hg : goesB c k = true := by simpa using hj
        have hg' : goesB (c ++ [xI]) k = true := by
          unfold goesB at hg ⊢
          simp only [Bool.and_eq_true, decide_eq_true_eq] at hg ⊢
          have ht' : tgI (c ++ [xI]) k = tgI c k := by unfold tgI; rw [at5_app hk']
          rw [ht']
          exact ⟨hg.1, by rw [hlen]; omega, by rw [stB_app (by omega)]; exact hg.2.2⟩
        rw [hg']
        rfl
  · have hl : lastB (c ++ [xI]) = c.length := last_at hend (by omega) (by have := stepN_pos (at5 (c ++ [xI]) c.length); omega)
    rw [hl, at5_end, xI_cls]
    rfl
theorem mpA_app {l d : List M4} {k : Nat} (h : k < l.length) : mpA (l ++ d) k = mpA l k := by
  unfold mpA
  rw [List.getD_eq_getElem?_getD, List.getD_eq_getElem?_getD, List.getElem?_append_left h]
theorem mpA_end {l : List M4} {m : M4} : mpA (l ++ [m]) l.length = m := by
  unfold mpA
  rw [List.getD_eq_getElem?_getD, List.getElem?_append_right (Nat.le_refl _)]
  simp
theorem badM_all {l : List M4} (h : badM l = none) : ∀ j, j < l.length → mayB (mpA l j) = true := by
  intro j hj
  unfold badM at h
  rw [List.find?_eq_none] at h
  have := h j (List.mem_range.2 hj)
  unfold mpA zM
  simpa using this
/-- One more map. -/
theorem right_map {l : List M4} {c : List I5} (h : RtI l c) (m : M4) (hl : l.length + 1 ≤ 4) : chkI (l ++ [m]) c = if mayB m then ((chkI (l ++ [m]) c).1, 0) else ((l.length : Int), 26) := by
  have hlen : (l ++ [m]).length = l.length + 1 := by simp
  have hall := badM_all h.may
  cases hm : mayB m
  · have hb : badM (l ++ [m]) = some l.length := badM_some (fun j hj => by rw [mpA_app hj]; exact hall j hj) (by omega) (by rw [mpA_end]; exact hm)
    unfold chkI
    rw [if_neg (by have := h.pos; omega), if_neg (by have := h.top; omega), hb]
    rfl
  · have hr : RtI (l ++ [m]) c := by
      refine ⟨h.pos, h.top, by omega, badM_none (fun j hj => ?_), fun k hk hs => ?_, h.jump, h.fin⟩
      · by_cases e : j = l.length
        · subst e; rw [mpA_end]; exact hm
        · rw [mpA_app (by omega)]; exact hall j (by omega)
      · exact aloneE_more (h.alone k hk hs) (by rw [hlen]; omega) (.inr rfl)
    have := (right_iff _ _).2 hr
    rw [if_pos rfl, ← this]
theorem right_one (m : M4) : ((chkI [m] [xI]).2 == 0) = mayB m := by
  have hs : stB [xI] 0 = true := rfl
  cases hm : mayB m
  · have hb : badM [m] = some 0 := badM_some (fun j hj => by omega) (by simp) (by exact hm)
    unfold chkI
    rw [if_neg (by decide), if_neg (by simp), hb]
    rfl
  · have hr : RtI [m] [xI] := by
      refine ⟨by decide, by decide, by simp, badM_none (fun j hj => ?_), fun k hk _ => ?_, fun k hk _ => ?_, by kernel_rfl⟩
      · obtain rfl : j = 0 := by simp at hj; omega
        exact hm
      · obtain rfl : k = 0 := by simp at hk; omega
        exact xI_alone _ _
      · obtain rfl : k = 0 := by simp at hk; omega
        kernel_rfl
    rw [(right_iff _ _).2 hr]
    rfl
end Go.Proofs.YtdnkikgfiganaaaDoor
