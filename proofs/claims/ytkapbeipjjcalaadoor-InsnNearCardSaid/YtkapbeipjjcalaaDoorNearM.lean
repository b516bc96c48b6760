/-
  Plain facts for InsnNear: the registers read stand in order from 0 to 10; what a change of Off or of Imm does.
-/
import Derived.Test.YtkapbeipjjcalaaDoorReadU
namespace Go.Proofs.YtkapbeipjjcalaaDoor
set_option linter.unusedSimpArgs false
set_option linter.unusedVariables false
open Go.ChangeShapes Go.WideShapes Go.ChangeAt Go.RowKit Go.Sort Go.Lib

theorem readL_bd (p : Nat → Bool) (k : Nat) : ∀ z ∈ readL p k, 0 ≤ z ∧ z < k := by
  intro z hz
  unfold readL at hz
  obtain ⟨n, hn, rfl⟩ := List.mem_map.1 hz
  have := List.mem_range.1 (List.mem_filter.1 hn).1
  omega
theorem readL_pw (p : Nat → Bool) (k : Nat) : (readL p k).Pairwise (· < ·) := by
  unfold readL
  rw [List.pairwise_map]
  refine (List.Pairwise.filter _ List.pairwise_lt_range).imp ?_
  intro a b h
  omega
theorem readL_at (p : Nat → Bool) (k j : Nat) (hj : j < (readL p k).length) : 0 ≤ (readL p k).getD j 0 ∧ (readL p k).getD j 0 < k ∧ (0 < j → (readL p k).getD (j - 1) 0 < (readL p k).getD j 0) := by
  have hb := readL_bd p k
  have hp := readL_pw p k
  generalize readL p k = l at *
  have e (i : Nat) (hi : i < l.length) : l.getD i 0 = l[i] := by rw [List.getD_eq_getElem?_getD, List.getElem?_eq_getElem hi]; rfl
  rw [e j hj]
  refine ⟨(hb _ (List.getElem_mem hj)).1, (hb _ (List.getElem_mem hj)).2, fun h0 => ?_⟩
  rw [e (j - 1) (by omega)]
  exact List.pairwise_iff_getElem.1 hp (j - 1) j (by omega) hj (by omega)
theorem uL_shape (op dst src off imm : Int) (h0 : 0 ≤ op) (h1 : op < 256) (d0 : 0 ≤ dst) (s0 : 0 ≤ src) (h : uE op dst src off imm = 0) : ∃ p, uL op dst src off imm = readL p 11 := by
  have h' : tkE (rowI op src imm) dst src off imm = 0 := h
  obtain ⟨r, hF, hR, hu, _, _⟩ := tk_ok h0 h1 h'
  have hT : tkR (rowI op src imm) dst src off imm = rowI op src imm := by unfold tkR; rw [if_pos h']
  refine ⟨fun n : Nat => (dBr r (rowI op src imm) && dst == (n : Int) || (r.src == 1) && src == (n : Int) || ((rowI op src imm).cls == 9) && (n : Int) == 0), ?_⟩
  unfold uL
  rw [show uE op dst src off imm = 0 from h, show uT op dst src off imm = rowI op src imm from hT]
  exact lists_one h0 h1 d0 s0 h' hF _ (fun _ => rfl)
theorem uL_at (op dst src off imm : Int) (h0 : 0 ≤ op) (h1 : op < 256) (d0 : 0 ≤ dst) (s0 : 0 ≤ src) (h : uE op dst src off imm = 0) (j : Nat) (hj : j < (uL op dst src off imm).length) :
    0 ≤ (uL op dst src off imm).getD j 0 ∧ (uL op dst src off imm).getD j 0 ≤ 10 ∧ (0 < j → (uL op dst src off imm).getD (j - 1) 0 < (uL op dst src off imm).getD j 0) := by
  obtain ⟨p, e⟩ := uL_shape op dst src off imm h0 h1 d0 s0 h
  rw [e] at hj ⊢
  have := readL_at p 11 j hj
  omega
def offCls (c : Int) : Bool := c == 3 || c == 4 || c == 5 || c == 6 || c == 7
def chkOff (r : RR) : Bool := (offCls r.cls == !(r.off == 0)) && (decide (r.cls ≠ 2) || r.op == 215) && (decide (r.op ≠ 215) || r.cls == 2) && decide (0 ≤ r.off) && decide (r.cls ≤ 11) && decide (1 ≤ r.cls)
theorem off_all : (rowsI.all chkOff) = true := by kernel_rfl
theorem cv_zero (u : Int) : cv u = 0 ↔ u = 0 := by
  unfold cv
  by_cases h0 : u = 0
  · subst h0; decide
  by_cases h1 : u = 1
  · subst h1; decide
  by_cases h2 : u = 2
  · subst h2; decide
  simp [h0, h1, h2]
theorem tkE_zero (r : Rw) (dst src off imm : Int) : tkE r dst src off imm = 0 ↔ r.cls ≠ 0 ∧ (standB r.dst dst && standB r.src src) = true ∧ (beB r.dst dst && beB r.src src && beB r.off off && beB r.imm imm) = true := by
  unfold tkE
  split
  · rename_i h
    simp [h]
  rename_i h
  split
  · rename_i h2
    simp only [Bool.not_eq_true'] at h2
    rw [h2]
    simp
  rename_i h2
  split
  · rename_i h3
    simp only [Bool.not_eq_true'] at h3
    rw [h3]
    simp
  rename_i h3
  simp only [Bool.not_eq_true', Bool.not_eq_false] at h2 h3
  simp [h, h2, h3]
/-- The instruction with another Off. -/
theorem near_off (op dst src off imm off' : Int) (h0 : 0 ≤ op) (h1 : op < 256) (h : uE op dst src off imm = 0) :
    (offCls (uT op dst src off imm).cls = true → uE op dst src off' imm = 0 ∧ uT op dst src off' imm = uT op dst src off imm) ∧
    (offCls (uT op dst src off imm).cls = false → (uE op dst src off' imm = 0 ↔ off' = 0)) := by
  have h' : tkE (rowI op src imm) dst src off imm = 0 := h
  obtain ⟨r, hF, hR, hu, _, _⟩ := tk_ok h0 h1 h'
  have hT : uT op dst src off imm = rowI op src imm := by unfold uT tkR; rw [if_pos h']
  have hc := off_all
  rw [List.all_eq_true] at hc
  have hk := hc r (List.mem_of_find?_eq_some hF)
  simp only [chkOff, Bool.and_eq_true, beq_iff_eq] at hk
  have hk1 := hk.1.1.1.1.1
  have ecls : (rowI op src imm).cls = r.cls := by rw [hR]; rfl
  have eoff : (rowI op src imm).off = cv r.off := by rw [hR]; rfl
  obtain ⟨z1, z2, z3⟩ := (tkE_zero _ _ _ _ _).1 h'
  simp only [Bool.and_eq_true] at z3
  obtain ⟨⟨⟨b1, b2⟩, b3⟩, b4⟩ := z3
  have key : uE op dst src off' imm = 0 ↔ beB (rowI op src imm).off off' = true := by
    unfold uE
    rw [tkE_zero]
    simp [z1, z2, b1, b2, b4]
  rw [hT, ecls, hk1]
  refine ⟨fun hx => ?_, fun hx => ?_⟩
  · have hne : (cv r.off == 0) = false := by
      have : r.off ≠ 0 := by simpa using hx
      simpa using fun e => this ((cv_zero _).1 e)
    have hE : uE op dst src off' imm = 0 := key.2 (by rw [eoff]; unfold beB; rw [hne]; rfl)
    refine ⟨hE, ?_⟩
    have hE' : tkE (rowI op src imm) dst src off' imm = 0 := hE
    unfold uT tkR
    rw [if_pos hE']
  · have he : (cv r.off == 0) = true := by
      have : r.off = 0 := by simpa using hx
      rw [this]; rfl
    rw [key, eoff]
    unfold beB
    rw [he]
    simp
/-- The instruction with another Imm. -/
theorem near_imm (op dst src off imm imm' : Int) (h0 : 0 ≤ op) (h1 : op < 256) (h : uE op dst src off imm = 0) (h2 : (uT op dst src off imm).cls ≠ 2) (hE : uE op dst src off imm' = 0) :
    uT op dst src off imm' = uT op dst src off imm := by
  have h' : tkE (rowI op src imm) dst src off imm = 0 := h
  have hE' : tkE (rowI op src imm') dst src off imm' = 0 := hE
  obtain ⟨r, hF, hR, hu, _, _⟩ := tk_ok h0 h1 h'
  have hT : uT op dst src off imm = rowI op src imm := by unfold uT tkR; rw [if_pos h']
  have hT' : uT op dst src off imm' = rowI op src imm' := by unfold uT tkR; rw [if_pos hE']
  have hc := off_all
  rw [List.all_eq_true] at hc
  have hk := hc r (List.mem_of_find?_eq_some hF)
  simp only [chkOff, Bool.and_eq_true, beq_iff_eq] at hk
  have hk3 := hk.1.1.1.2
  have ecls : (rowI op src imm).cls = r.cls := by rw [hR]; rfl
  rw [hT, ecls] at h2
  have hop : r.op ≠ 215 := by
    intro e
    rw [e] at hk3
    simp [h2] at hk3
  have hro : r.op = op := by
    have hh := List.find?_some hF
    unfold hit at hh
    simp only [Bool.not_eq_true', Bool.or_eq_false_iff] at hh
    simpa using hh.1.1
  rw [hT, hT']
  unfold rowI
  have : op ≠ 215 := by rw [← hro]; exact hop
  rw [if_neg this, if_neg this]
theorem near_w (op dst src off imm : Int) (d0 : 0 ≤ dst) (h : uE op dst src off imm = 0) : -1 ≤ uW op dst src off imm ∧ uW op dst src off imm < 10 := by
  have h' : tkE (rowI op src imm) dst src off imm = 0 := h
  have hT : uT op dst src off imm = rowI op src imm := by unfold uT tkR; rw [if_pos h']
  obtain ⟨z1, z2, z3⟩ := (tkE_zero _ _ _ _ _).1 h'
  rw [Bool.and_eq_true] at z2
  unfold uW
  rw [if_neg (by simpa using h)]
  by_cases a : (uT op dst src off imm).dst = 3
  · rw [if_pos a]
    have hs := z2.1
    rw [← hT, a] at hs
    have := stand_three hs
    omega
  · rw [if_neg a]
    split <;> omega
theorem near_p (op dst src off imm : Int) (h : uE op dst src off imm = 0) : 1 ≤ uP op dst src off imm ∧ uP op dst src off imm ≤ 2 := by
  unfold uP
  rw [if_neg (by simpa using h)]
  split
  · omega
  · split <;> omega
theorem near_no (op dst src off imm : Int) (h : uE op dst src off imm ≠ 0) : uT op dst src off imm = r0 ∧ uL op dst src off imm = [] ∧ uW op dst src off imm = -1 ∧ uP op dst src off imm = 0 := by
  have h' : ¬ tkE (rowI op src imm) dst src off imm = 0 := h
  refine ⟨?_, ?_, ?_, ?_⟩
  · unfold uT tkR; rw [if_neg h']
  · unfold uL rdList; rw [if_pos h]
  · unfold uW; rw [if_pos h]
  · unfold uP; rw [if_pos h]
end Go.Proofs.YtkapbeipjjcalaaDoor
