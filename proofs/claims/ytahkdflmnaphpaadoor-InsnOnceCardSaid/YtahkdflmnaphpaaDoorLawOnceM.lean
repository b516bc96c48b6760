/-
  Law InsnOnce: an instruction is made of what it is and of its fields, and of nothing else; what is made of a What is it. The table of sizes is as start-up lays it (the card ties it); no other condition.
-/
import Derived.Test.YtahkdflmnaphpaaDoorInsnU
import Derived.Test.YtahkdflmnaphpaaDoorInsnW
import Derived.Test.YtahkdflmnaphpaaDoorInsnK
namespace Go.Proofs.YtahkdflmnaphpaaDoor
set_option linter.unusedSimpArgs false
set_option linter.unusedVariables false
open Go.ChangeShapes Go.WideShapes Go.ChangeAt Go.RowKit Go.Joins Go.Deep

theorem row_back {op dst src off imm : Int} (h0 : 0 ≤ op) (h1 : op < 256) (h : tkE (rowI op src imm) dst src off imm = 0) :
    mkE (rowI op src imm) dst src off imm = 0 ∧ mkV (rowI op src imm) dst src off imm = insV op dst src off imm ∧ tkR (rowI op src imm) dst src off imm = rowI op src imm := by
  have hcls : (rowI op src imm).cls ≠ 0 := by
    intro hc
    unfold tkE at h
    rw [if_pos hc] at h
    cases h
  have hl := link op src imm h0 h1
  cases hF : findI op src imm with
  | none =>
    rw [hF] at hl
    rw [hl] at hcls
    exact absurd rfl hcls
  | some r =>
    rw [hF] at hl
    have hR : rowI op src imm = toRw r := hl
    have hm : r ∈ rowsI := List.mem_of_find?_eq_some hF
    have hh : hit op src imm r = true := List.find?_some hF
    have hc := chk_all
    rw [List.all_eq_true] at hc
    have hr := hc r hm
    simp only [chkRow, Bool.and_eq_true, decide_eq_true_eq, Bool.or_eq_true] at hr
    obtain ⟨⟨⟨⟨⟨⟨⟨⟨k1, _⟩, _⟩, k2⟩, k3⟩, k4⟩, _⟩, _⟩, _⟩ := hr
    have hh' : r.op = op ∧ (r.src = 4 → src = r.at_) ∧ (r.imm = 4 → imm = r.at_) := by
      have : (r.op = op ∧ (¬r.src = 4 ∨ src = r.at_)) ∧ (¬r.imm = 4 ∨ imm = r.at_) := by simpa [hit] using hh
      obtain ⟨⟨a, b⟩, c⟩ := this
      exact ⟨a, fun h => b.resolve_left (fun n => n h), fun h => c.resolve_left (fun n => n h)⟩
    obtain ⟨a1, a2, a3⟩ := hh'
    have eO : opI (rowI op src imm) = op := by rw [hR, k1, a1]
    have eS : mkS (rowI op src imm) src = src := by
      rw [hR]
      unfold mkS
      show (if r.cls = 10 then (0 : Int) else if r.cls = 11 then 1 else src) = src
      by_cases hs : r.src = 4
      · rw [if_pos hs] at k2
        rcases (by simpa using k2 : (r.cls = 10 ∧ r.at_ = 0) ∨ (r.cls = 11 ∧ r.at_ = 1)) with ⟨a, b⟩ | ⟨a, b⟩
        · rw [if_pos a, a2 hs, b]
        · rw [if_neg (by omega), if_pos a, a2 hs, b]
      · rw [if_neg hs] at k2
        have k2' : r.cls ≠ 10 ∧ r.cls ≠ 11 := by simpa using k2
        rw [if_neg k2'.1, if_neg k2'.2]
    have eM : mkM (rowI op src imm) imm = imm := by
      rw [hR]
      unfold mkM
      show (if r.cls = 2 then wrap32 (wrap64 (8 * r.size)) else imm) = imm
      by_cases hs : r.imm = 4
      · rw [if_pos hs] at k3
        have k3' : r.cls = 2 ∧ wrap32 (wrap64 (8 * r.size)) = r.at_ := by simpa using k3
        rw [if_pos k3'.1, k3'.2, a3 hs]
      · rw [if_neg hs] at k3
        have k3' : r.cls ≠ 2 := by simpa using k3
        rw [if_neg k3']
    have hz : whB (rowI op src imm) r0 = false := by
      unfold whB
      have : ((rowI op src imm).cls == r0.cls) = false := by simpa [r0] using hcls
      rw [this]
      rfl
    have hs : whB (rowI op src imm) (rowI op src imm) = true := by
      unfold whB
      simp
    have hE : mkE (rowI op src imm) dst src off imm = 0 := by
      unfold mkE
      rw [eO, eS, eM, hz, hs]
      simpa using h
    refine ⟨hE, ?_, ?_⟩
    · unfold mkV
      rw [hE, if_pos rfl, eO, eS, eM]
    · unfold tkR
      rw [h, if_pos rfl]
theorem mkE_in (q : Rw) (dst src off imm : Int) : mkE q dst src off imm = 0 ∨ mkE q dst src off imm = 1 ∨ mkE q dst src off imm = 21 ∨ mkE q dst src off imm = 22 := by
  unfold mkE
  cases hz : whB q r0
  · cases hs : whB q (rowI (opI q) (mkS q src) (mkM q imm))
    · right; left; rfl
    · have hc : (rowI (opI q) (mkS q src) (mkM q imm)).cls ≠ 0 := by
        intro hc
        rcases rowI_cls (opI q) (mkS q src) (mkM q imm) with h | h
        · rw [h, hz] at hs
          cases hs
        · exact h hc
      unfold tkE
      rw [if_neg hc]
      simp only [Bool.false_eq_true, if_false, Bool.true_eq_false]
      split
      · right; right; left; rfl
      · split
        · right; right; right; rfl
        · left; rfl
  · right; left; rfl
theorem mk_ok {q : Rw} {dst src off imm : Int} (h : mkE q dst src off imm = 0) :
    mkV q dst src off imm = insV (opI q) dst (mkS q src) off (mkM q imm) ∧ tkE (rowI (opI q) (mkS q src) (mkM q imm)) dst (mkS q src) off (mkM q imm) = 0 ∧ whB (tkR (rowI (opI q) (mkS q src) (mkM q imm)) dst (mkS q src) off (mkM q imm)) q = true := by
  have hv : mkV q dst src off imm = insV (opI q) dst (mkS q src) off (mkM q imm) := by unfold mkV; rw [if_pos h]
  unfold mkE at h
  cases hz : whB q r0
  · cases hs : whB q (rowI (opI q) (mkS q src) (mkM q imm))
    · rw [hz, hs] at h
      cases h
    · rw [hz, hs] at h
      have ht : tkE (rowI (opI q) (mkS q src) (mkM q imm)) dst (mkS q src) off (mkM q imm) = 0 := h
      refine ⟨hv, ht, ?_⟩
      unfold tkR
      rw [ht, if_pos rfl]
      obtain ⟨e1, e2, e3, e4, e5⟩ := whB_iff hs
      unfold whB
      rw [e1, e2, e3, e4, e5]
      simp
  · rw [hz] at h
    cases h
theorem mk_bad {q : Rw} {dst src off imm : Int} (h : mkE q dst src off imm ≠ 0) : mkV q dst src off imm = insV 0 0 0 0 0 := by
  unfold mkV
  rw [if_neg h]

end Go.Proofs.YtahkdflmnaphpaaDoor
