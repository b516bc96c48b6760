/-
  What is wrong by itself is told whatever stands behind it, plainly.
-/
import Derived.Test.YtdnkikgfiganaaaDoorShQ
namespace Go.Proofs.YtdnkikgfiganaaaDoor
set_option linter.unusedSimpArgs false
set_option linter.unusedVariables false
open Go.ChangeShapes Go.WideShapes Go.ChangeAt Go.RowKit

theorem badM_lt {l : List M4} {k : Nat} (h : badM l = some k) : k < l.length := by
  unfold badM at h
  exact List.mem_range.1 (List.mem_of_find?_eq_some h)
/-- What Check tells that is wrong by itself: a map, or an instruction. -/
theorem ahead_cases {l : List M4} {c : List I5} {a e : Int} (h : chkI l c = (a, e)) (h0 : e ≠ 0) (h4 : e ≠ 4) (h3 : e ≠ 3) (h24 : e ≠ 24) (h25 : e ≠ 25) :
    (∃ k, badM l = some k ∧ a = (k : Int) ∧ e = 26 ∧ k < l.length ∧ l.length ≤ 4) ∨ (badM l = none ∧ l.length ≤ 4 ∧ ∃ k, k < c.length ∧ c.length ≤ 512 ∧ a = (k : Int) ∧ firstB c (fun k => alE l.length c k != 0) c.length = some k ∧ e = alE l.length c k) := by
  unfold chkI at h
  split at h
  · injection h with _ h; exact absurd h.symm h4
  split at h
  · injection h with _ h; exact absurd h.symm h3
  rename_i hc hl
  cases hb : badM l with
  | some k =>
    rw [hb] at h
    injection h with h5 h6
    exact .inl ⟨k, rfl, h5.symm, h6.symm, badM_lt hb, by omega⟩
  | none =>
    rw [hb] at h
    dsimp only at h
    cases hf : firstB c (fun k => alE l.length c k != 0) c.length with
    | some k =>
      rw [hf] at h
      injection h with h5 h6
      exact .inr ⟨rfl, by omega, k, (firstB_some.1 hf).1, by omega, h5.symm, rfl, h6.symm⟩
    | none =>
      rw [hf] at h
      dsimp only at h
      unfold leadI at h
      split at h
      · injection h with _ h; exact absurd h.symm h24
      split at h
      · injection h with _ h; exact absurd h.symm h0
      · injection h with _ h; exact absurd h.symm h25
theorem chk_map {l : List M4} {d : List I5} {k : Nat} (h : badM l = some k) (hl : l.length ≤ 4) (h0 : 0 < d.length) (h1 : d.length ≤ 512) : chkI l d = ((k : Int), 26) := by
  unfold chkI
  rw [if_neg (by omega), if_neg (by omega), h]
theorem hf_cong {c d : List I5} : ∀ {k : Nat}, (∀ j, j < k → at5 d j = at5 c j) → hf d k = hf c k
  | 0, _ => rfl
  | k + 1, h => by rw [hf, hf, hf_cong fun j hj => h j (Nat.lt_succ_of_lt hj), h k (Nat.lt_succ_self k)]
theorem chk_insn {l : List M4} {c d : List I5} {k : Nat} (hb : badM l = none) (hl : l.length ≤ 4) (hc : c.length ≤ 512) (hd : d.length = c.length) (hk : firstB c (fun k => alE l.length c k != 0) c.length = some k) (hs : ∀ j, j < k + 2 → d[j]? = c[j]?) :
    chkI l d = ((k : Int), alE l.length c k) := by
  obtain ⟨h1, h2, h3, h4⟩ := firstB_some.1 hk
  have ha : ∀ j, j < k + 2 → at5 d j = at5 c j := fun j hj => by
    unfold at5
    rw [List.getD_eq_getElem?_getD, List.getD_eq_getElem?_getD, hs j hj]
  have he : ∀ j, j < k + 1 → alE l.length d j = alE l.length c j := fun j hj => by
    unfold alE nextI
    rw [ha j (by omega), hs (j + 1) (by omega)]
  have hst : ∀ j, j < k + 1 → stB d j = stB c j := fun j hj => by
    unfold stB
    rw [hf_cong fun i hi => ha i (by omega)]
  have hk' : firstB d (fun k => alE l.length d k != 0) d.length = some k := by
    refine firstB_some.2 ⟨by omega, by rw [hst k (by omega)]; exact h2, ?_, fun j hj hsj => ?_⟩
    · rw [he k (by omega)]; exact h3
    · rw [hst j (by omega)] at hsj
      rw [he j (by omega)]
      exact h4 j hj hsj
  unfold chkI
  rw [if_neg (by omega), if_neg (by omega), hb]
  dsimp only
  rw [hk']
  dsimp only
  rw [he k (by omega)]
/-- Are the maps alone right? -/
theorem right_maps {l : List M4} (hl : l.length ≤ 4) : ((chkI l [xI]).2 == 0) = (badM l).isNone := by
  cases hb : badM l with
  | some k =>
    rw [chk_map hb hl (by decide) (by decide)]
    rfl
  | none =>
    have hr : RtI l [xI] := by
      refine ⟨by decide, by decide, hl, hb, fun k hk _ => ?_, fun k hk _ => ?_, by kernel_rfl⟩
      · obtain rfl : k = 0 := by simp at hk; omega
        exact xI_alone _ _
      · obtain rfl : k = 0 := by simp at hk; omega
        kernel_rfl
    rw [(right_iff _ _).2 hr]
    rfl
end Go.Proofs.YtdnkikgfiganaaaDoor
