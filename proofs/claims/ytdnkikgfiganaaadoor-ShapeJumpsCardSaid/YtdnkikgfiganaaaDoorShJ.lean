/-
  An image without its jumps, plainly.
-/
import Derived.Test.YtdnkikgfiganaaaDoorShQ
namespace Go.Proofs.YtdnkikgfiganaaaDoor
set_option linter.unusedSimpArgs false
set_option linter.unusedVariables false
open Go.ChangeShapes Go.WideShapes Go.ChangeAt Go.RowKit

def xA : I5 := ⟨7, 0, 0, 0, 0⟩
theorem xA_ok : xA.ok := by unfold I5.ok xA; decide
theorem xA_e : xA.e = 0 := by kernel_rfl
theorem xA_p : xA.p = 1 := by kernel_rfl
theorem xI_p : xI.p = 1 := by kernel_rfl
theorem xA_cls : xA.t.cls = 1 := by kernel_rfl
theorem xA_alone (m : Int) (r : Option I5) : aloneE m xA r = 0 := by
  unfold aloneE
  rw [if_neg (by rw [xA_e]; simp), if_neg (by rw [xA_p]; omega), if_neg (by rw [xA_cls]; omega), if_neg (by rw [xA_cls]; omega)]
/-- Is it a jump? -/
def isJ (x : I5) : Bool := x.e == 0 && (x.t.cls == 6 || x.t.cls == 7)
/-- What stands at the place k of a code without its jumps. -/
def rpl (c : List I5) (k : Nat) : I5 := if stB c k && isJ (at5 c k) then (if (at5 c k).t.cls == 7 && k + 1 == c.length then xI else xA) else at5 c k
/-- A code without its jumps ahead of the place m. -/
def pln (c : List I5) (m : Nat) : List I5 := (List.range c.length).map fun k => if k < m then rpl c k else at5 c k
theorem pln_len (c : List I5) (m : Nat) : (pln c m).length = c.length := by unfold pln; simp
theorem pln_get (c : List I5) (m k : Nat) (h : k < c.length) : (pln c m)[k]? = some (if k < m then rpl c k else at5 c k) := by
  unfold pln
  rw [List.getElem?_map, List.getElem?_range h]
  rfl
theorem pln_zero (c : List I5) : pln c 0 = c := by
  apply List.ext_getElem?
  intro k
  by_cases h : k < c.length
  · rw [pln_get c 0 k h, if_neg (by omega)]
    unfold at5
    rw [List.getD_eq_getElem?_getD, List.getElem?_eq_getElem h]; rfl
  · rw [List.getElem?_eq_none (by rw [pln_len]; omega), List.getElem?_eq_none (by omega)]
theorem pln_succ (c : List I5) (k : Nat) (h : k < c.length) : pln c (k + 1) = (pln c k).set k (rpl c k) := by
  apply List.ext_getElem?
  intro j
  by_cases hj : j < c.length
  · rw [pln_get c (k + 1) j hj, List.getElem?_set]
    by_cases e : k = j
    · subst e
      simp [pln_len, h]
    · rw [if_neg e, pln_get c k j hj]
      congr 1
      by_cases hk : j < k
      · rw [if_pos (by omega), if_pos hk]
      · rw [if_neg (by omega), if_neg hk]
  · rw [List.getElem?_eq_none (by rw [pln_len]; omega), List.getElem?_eq_none (by rw [List.length_set, pln_len]; omega)]
theorem pln_same (c : List I5) (k : Nat) (h : k < c.length) (hr : rpl c k = at5 c k) : pln c (k + 1) = pln c k := by
  rw [pln_succ c k h, hr]
  apply List.ext_getElem?
  intro j
  rw [List.getElem?_set]
  by_cases e : k = j
  · subst e
    rw [if_pos rfl, if_pos (by rw [pln_len]; exact h), pln_get c k k h, if_neg (by omega)]
  · rw [if_neg e]
theorem pln_at (c : List I5) (k : Nat) (h : k < c.length) : at5 (pln c c.length) k = rpl c k := by
  unfold at5
  rw [List.getD_eq_getElem?_getD, pln_get c _ k h, if_pos h]
  rfl
theorem rpl_no {c : List I5} {k : Nat} (h : stB c k = false ∨ isJ (at5 c k) = false) : rpl c k = at5 c k := by
  unfold rpl
  rw [if_neg (by rcases h with h | h <;> simp [h])]
theorem rpl_yes {c : List I5} {k : Nat} (h : stB c k = true) (hj : isJ (at5 c k) = true) : rpl c k = if (at5 c k).t.cls == 7 && k + 1 == c.length then xI else xA := by
  unfold rpl
  rw [if_pos (by simp [h, hj])]
theorem rpl_ok {c : List I5} (hc : CdOk c) (k : Nat) : (rpl c k).ok := by
  unfold rpl
  split
  · split
    · unfold I5.ok; decide
    · exact xA_ok
  · exact at5_ok hc k
theorem pln_ok {c : List I5} (hc : CdOk c) (m : Nat) : CdOk (pln c m) := by
  intro x hx
  unfold pln at hx
  obtain ⟨k, _, rfl⟩ := List.mem_map.1 hx
  split
  · exact rpl_ok hc k
  · exact at5_ok hc k
theorem isJ_iff {x : I5} : isJ x = true ↔ x.e = 0 ∧ (x.t.cls = 6 ∨ x.t.cls = 7) := by
  unfold isJ
  simp
theorem isJ_p {x : I5} (h : isJ x = true) : x.p = 1 := by
  obtain ⟨he, hc⟩ := isJ_iff.1 h
  rcases p_cases x with e | e | e
  · unfold I5.p uP at e
    rw [if_neg (by intro h; exact h he)] at e
    split at e
    · omega
    split at e <;> omega
  · exact e
  · have := p_two x he
    rw [e] at this
    split at this <;> omega
theorem rpl_p {c : List I5} {k : Nat} : ((rpl c k).p == 2) = ((at5 c k).p == 2) := by
  by_cases hj : stB c k = true ∧ isJ (at5 c k) = true
  · rw [rpl_yes hj.1 hj.2, isJ_p hj.2]
    split
    · rw [xI_p]
    · rw [xA_p]
  · rw [rpl_no (by cases h : stB c k <;> cases h' : isJ (at5 c k) <;> simp_all)]
theorem pln_hf (c : List I5) : ∀ k, k ≤ c.length → hf (pln c c.length) k = hf c k
  | 0, _ => rfl
  | k + 1, h => by rw [hf, hf, pln_hf c k (by omega), pln_at c k (by omega), rpl_p]
theorem pln_st (c : List I5) {k : Nat} (h : k ≤ c.length) : stB (pln c c.length) k = stB c k := by unfold stB; rw [pln_hf c k h]
theorem pln_begs (c : List I5) : begsTo (pln c c.length) c.length = begsTo c c.length := by
  unfold begsTo
  apply List.filter_congr
  intro k hk
  exact pln_st c (Nat.le_of_lt (List.mem_range.1 hk))
theorem pln_last (c : List I5) : lastB (pln c c.length) = lastB c := by
  unfold lastB
  rw [pln_len, pln_begs]
theorem alone_blind {m : Int} {x : I5} (h : x.p ≠ 2) (r r' : Option I5) : aloneE m x r = aloneE m x r' := by
  unfold aloneE
  have h1 : ∀ s : Option I5, ¬ (x.p = 2 ∧ wholeB x.t.cls s = false) := fun s e => h e.1
  by_cases he : x.e ≠ 0
  · rw [if_pos he, if_pos he]
  · rw [if_neg he, if_neg he, if_neg (h1 r), if_neg (h1 r')]
theorem alone_J {m : Int} {x : I5} {r : Option I5} (h : isJ x = true) : aloneE m x r = 0 := by
  obtain ⟨he, hc⟩ := isJ_iff.1 h
  unfold aloneE
  rw [if_neg (by intro h; exact h he), if_neg (by rw [isJ_p h]; omega), if_neg (by omega), if_neg (by omega)]
theorem pln_alone {m : Int} {c : List I5} {k : Nat} (h : k < c.length) (hs : stB c k = true) : alE m (pln c c.length) k = alE m c k := by
  unfold alE
  rw [pln_at c k h]
  by_cases hj : isJ (at5 c k) = true
  · rw [alone_J hj, rpl_yes hs hj]
    split
    · exact xI_alone _ _
    · exact xA_alone _ _
  · rw [rpl_no (.inr (by simpa using hj))]
    by_cases hp : (at5 c k).p = 2
    · congr 1
      unfold nextI
      by_cases hk : k + 1 < c.length
      · rw [pln_get c _ _ hk, if_pos hk]
        have hn : stB c (k + 1) = false := by
          have := (stB_next hs).2 (by unfold stepN; rw [if_pos hp])
          exact this
        rw [rpl_no (.inl hn)]
        unfold at5
        rw [List.getD_eq_getElem?_getD, List.getElem?_eq_getElem hk]; rfl
      · rw [List.getElem?_eq_none (by rw [pln_len]; omega), List.getElem?_eq_none (by omega)]
    · exact alone_blind hp _ _
/-- Do the jumps ahead of the place m go to where one begins? -/
def gsUp (c : List I5) (m : Nat) : Bool := (List.range m).all fun k => !(stB c k && isJ (at5 c k)) || goesB c k
theorem gsUp_zero (c : List I5) : gsUp c 0 = true := rfl
theorem gsUp_succ (c : List I5) (k : Nat) : gsUp c (k + 1) = (gsUp c k && (!(stB c k && isJ (at5 c k)) || goesB c k)) := by
  unfold gsUp
  rw [List.range_succ, List.all_append]
  simp
theorem gsUp_no {c : List I5} {k : Nat} (h : stB c k = false ∨ isJ (at5 c k) = false) : gsUp c (k + 1) = gsUp c k := by
  rw [gsUp_succ]
  rcases h with h | h <;> simp [h]
theorem gsUp_yes {c : List I5} {k : Nat} (h : stB c k = true) (hj : isJ (at5 c k) = true) : gsUp c (k + 1) = (gsUp c k && goesB c k) := by
  rw [gsUp_succ, h, hj]
  simp
theorem gsUp_iff {c : List I5} {m : Nat} : gsUp c m = true ↔ ∀ k, k < m → stB c k = true → isJ (at5 c k) = true → goesB c k = true := by
  unfold gsUp
  rw [List.all_eq_true]
  constructor
  · intro h k hk hs hj
    have := h k (List.mem_range.2 hk)
    simpa [hs, hj] using this
  · intro h k hk
    have := h k (List.mem_range.1 hk)
    cases hs : stB c k <;> cases hj : isJ (at5 c k) <;> simp_all
theorem begs_max (c : List I5) : ∀ n, ∀ x ∈ begsTo c n, x ≤ (begsTo c n).getLastD 0
  | 0, x, hx => by cases hx
  | n + 1, x, hx => by
    have hl := (mem_begsTo.1 hx).1
    rw [begsTo_succ] at hx ⊢
    by_cases h : stB c n = true
    · rw [if_pos h, List.getLastD_concat]
      omega
    · rw [if_neg h, List.append_nil] at hx ⊢
      exact begs_max c n x hx
theorem lastB_max {c : List I5} {x : Nat} (h : x ∈ begsTo c c.length) : x ≤ lastB c := begs_max c _ x h
theorem fin_pln {l : List M4} {c : List I5} (h0 : 0 < c.length) (ha : ∀ k, k < c.length → stB c k = true → alE l.length c k = 0) : endB (at5 (pln c c.length) (lastB (pln c c.length))).t.cls = endB (at5 c (lastB c)).t.cls := by
  have hl := lastB_lt h0
  have hs := (mem_begsTo.1 (lastB_mem h0)).2
  rw [pln_last, pln_at c _ hl]
  by_cases hj : isJ (at5 c (lastB c)) = true
  · rw [rpl_yes hs hj]
    obtain ⟨he, hc⟩ := isJ_iff.1 hj
    rcases hc with hc | hc
    · rw [hc, if_neg (by simp), xA_cls]
      rfl
    · have hb : lastB c + 1 = c.length := by
        by_cases hn : lastB c + 1 < c.length
        · have h1 : stB c (lastB c + 1) = true := by
            have := (stB_next hs).1
            unfold stepN at this
            rw [if_neg (by rw [isJ_p hj]; omega)] at this
            exact this
          have h2 := last_at h1 hn
          exfalso
          have h3 : ∀ x ∈ begsTo c c.length, x ≤ lastB c := by
            intro x hx
            exact lastB_max hx
          have := h3 _ (mem_begsTo.2 ⟨hn, h1⟩)
          omega
        · omega
      rw [hc, hb]
      simp [xI_cls, endB]
  · rw [rpl_no (.inr (by simpa using hj))]
theorem right_jumps (l : List M4) (c : List I5) (h0 : 0 < c.length) (ht : c.length ≤ 512) : ((chkI l c).2 == 0) = (((chkI l (pln c c.length)).2 == 0) && gsUp c c.length) := by
  rw [Bool.eq_iff_iff]
  simp only [beq_iff_eq, Bool.and_eq_true]
  rw [right_iff, right_iff, gsUp_iff]
  constructor
  · intro h
    refine ⟨⟨by rw [pln_len]; exact h0, by rw [pln_len]; exact ht, h.maps, h.may, fun k hk hs => ?_, fun k hk hs => ?_, ?_⟩, fun k hk hs hj => ?_⟩
    · rw [pln_len] at hk
      rw [pln_st c (Nat.le_of_lt hk)] at hs
      rw [pln_alone hk hs]
      exact h.alone k hk hs
    · rw [pln_len] at hk
      rw [pln_st c (Nat.le_of_lt hk)] at hs
      have he := (alone_zero (h.alone k hk hs)).1
      unfold jmpB
      rw [pln_at c k hk]
      by_cases hj : isJ (at5 c k) = true
      · rw [rpl_yes hs hj]
        split
        · rw [xI_cls]; rfl
        · rw [xA_cls]; rfl
      · rw [rpl_no (.inr (by simpa using hj))]
        have h6 : ¬ ((at5 c k).t.cls = 6 ∨ (at5 c k).t.cls = 7) := fun e => hj (isJ_iff.2 ⟨he, e⟩)
        have a6 : ((at5 c k).t.cls == 6) = false := by simpa using fun e => h6 (.inl e)
        have a7 : ((at5 c k).t.cls == 7) = false := by simpa using fun e => h6 (.inr e)
        rw [a6, a7]
        rfl
    · rw [fin_pln h0 h.alone]
      exact h.fin
    · have hjm := h.jump k hk hs
      unfold jmpB at hjm
      obtain ⟨he, hc⟩ := isJ_iff.1 hj
      cases hg : goesB c k
      · rw [hg] at hjm
        rcases hc with e | e <;> simp [e] at hjm
      · rfl
  · rintro ⟨h, hg⟩
    have ha : ∀ k, k < c.length → stB c k = true → alE l.length c k = 0 := fun k hk hs => by
      have := h.alone k (by rw [pln_len]; exact hk) (by rw [pln_st c (Nat.le_of_lt hk)]; exact hs)
      rwa [pln_alone hk hs] at this
    refine ⟨h0, ht, h.maps, h.may, ha, fun k hk hs => ?_, ?_⟩
    · have he := (alone_zero (ha k hk hs)).1
      unfold jmpB
      by_cases hj : isJ (at5 c k) = true
      · rw [hg k hk hs hj]
        simp
      · have h6 : ¬ ((at5 c k).t.cls = 6 ∨ (at5 c k).t.cls = 7) := fun e => hj (isJ_iff.2 ⟨he, e⟩)
        have a6 : ((at5 c k).t.cls == 6) = false := by simpa using fun e => h6 (.inl e)
        have a7 : ((at5 c k).t.cls == 7) = false := by simpa using fun e => h6 (.inr e)
        rw [a6, a7]
        rfl
    · rw [← fin_pln h0 ha]
      exact h.fin
end Go.Proofs.YtdnkikgfiganaaaDoor
