import Derived.Test.YtodmikjpmcabiaaGreatZScV
import Derived.Test.YtodmikjpmcabiaaGreatZScR
namespace Go.Proofs.YtodmikjpmcabiaaGreat
set_option linter.unusedSimpArgs false
set_option linter.unusedVariables false
set_option maxRecDepth 100000
open Go.ChangeShapes Go.WideShapes Go.ChangeAt Go.RowKit

def SmAt (w : World) (g k : Nat) (r : Sm) : Prop := ∀ j u, (smCells r)[j]? = some u → w.cell? ⟨g, k * 10 + j, none⟩ = some u
theorem flat_getM (L : List Sm) (k : Nat) (r : Sm) (hk : L[k]? = some r) (j : Nat) (hj : j < 10) : (L.flatMap smCells)[k * 10 + j]? = (smCells r)[j]? := by
  induction L generalizing k with
  | nil => simp at hk
  | cons a L ih =>
    rw [List.flatMap_cons]
    cases k with
    | zero =>
      simp at hk
      subst hk
      rw [List.getElem?_append_left (by show _ < 10; omega)]
      simp
    | succ k =>
      rw [List.getElem?_append_right (by show 10 ≤ _; omega)]
      have h : (k + 1) * 10 + j - (smCells a).length = k * 10 + j := by show _ - 10 = _; omega
      rw [h]
      exact ih k (by simpa using hk)
theorem own_formM {w0 w : World} {v : Value} {L : List Sm} (h : OwnM w0 w v L) (hL : L.length = 29) : ∃ g cap, v = .slice (some ⟨g, 0, none⟩) 29 cap ∧ g < w.heap.size ∧ ∀ k r, L[k]? = some r → SmAt w g k r := by
  obtain ⟨h1, hb⟩ := h
  rcases h1.2 with ⟨_, hn⟩ | ⟨g, cap, cur, rfl, hg, hh, _⟩
  · rw [hL] at hn; cases hn
  · rw [hL] at h1 ⊢
    refine ⟨g, cap, rfl, (h1.lt g rfl).2, ?_⟩
    intro k r hk j u hu
    have hj : j < 10 := by
      have := (List.getElem?_eq_some_iff.1 hu).1
      exact this
    have hc := h1.cells (g := g) rfl (k * 10 + j) u (by rw [flat_getM _ k r hk j hj]; exact hu)
    have e : ((⟨g, 0, none⟩ : Addr).add (k * 10 + j)) = ⟨g, k * 10 + j, none⟩ := by simp only [Addr.add]; split <;> simp_all
    rwa [e] at hc
theorem SmAt.below {w w' : World} {g k : Nat} {r : Sm} (h : SmAt w g k r) (hb : Below w.heap.size w w') (hg : g < w.heap.size) : SmAt w' g k r := fun j u hu => (hb.cell (p := ⟨g, k * 10 + j, none⟩) hg).trans (h j u hu)
theorem each_form {w w' : World} {s : Sm} {e : Ending} (h : EachPost w s e w') : ∃ g cap, e = .returned (.slice (some ⟨g, 0, none⟩) 29 cap) ∧ Below w.heap.size w w' ∧ g < w'.heap.size ∧ ∀ k, k < 29 → ∃ op c, SmAt w' g k (op, c, s.2.2.1, s.2.2.2) := by
  obtain ⟨v, w0, rfl, hb, ho⟩ := h
  have hl : (eachL s 14).length = 29 := by rw [eachL_len]
  have hm := eachL_mem s 14
  generalize eachL s 14 = L at *
  obtain ⟨g, cap, rfl, hg, hc⟩ := own_formM ho hl
  refine ⟨g, cap, rfl, below_next hb ho.2, hg, fun k hk => ?_⟩
  have hk' : k < L.length := by omega
  have h1 := hm (L[k]) (List.getElem_mem hk')
  have h2 := hc k _ (List.getElem?_eq_getElem hk')
  generalize L[k] = r at h1 h2
  obtain ⟨o, d, r⟩ := r
  dsimp only at h1
  subst h1
  exact ⟨o, d, h2⟩
end Go.Proofs.YtodmikjpmcabiaaGreat
