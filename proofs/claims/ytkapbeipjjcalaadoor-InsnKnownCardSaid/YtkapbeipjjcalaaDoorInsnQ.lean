/-
  Plain rows: what Make answers, by the code and by the document's own list: both are the same.
-/
import Derived.Test.YtkapbeipjjcalaaDoorInsnO
import Derived.Test.YtkapbeipjjcalaaDoorRefOU
namespace Go.Proofs.YtkapbeipjjcalaaDoor
set_option linter.unusedSimpArgs false
set_option linter.unusedVariables false
open Go.ChangeShapes Go.WideShapes Go.ChangeAt Go.RowKit

def whB (a b : Rw) : Bool := a.cls == b.cls && (a.op == b.op && (a.size == b.size && (a.wide == b.wide && a.reg == b.reg)))
theorem neq_what (a b : Rw) (W : World) : (binOp .neq 31 (whV a) (whV b)).run Tryd.prog W = .ok (.bool (!whB a b)) W := by
  unfold whV whB
  cases h0 : (a.cls == b.cls) <;> cases h1 : (a.op == b.op) <;> cases h2 : (a.size == b.size) <;> cases h3 : (a.wide == b.wide) <;> cases h4 : (a.reg == b.reg) <;> simp [go_sem, h0, h1, h2, h3, h4]
theorem neq_what30 (a b : Rw) (W : World) : (binOp .neq 52 (whV a) (whV b)).run Tryd.prog W = .ok (.bool (!whB a b)) W := by
  unfold whV whB
  cases h0 : (a.cls == b.cls) <;> cases h1 : (a.op == b.op) <;> cases h2 : (a.size == b.size) <;> cases h3 : (a.wide == b.wide) <;> cases h4 : (a.reg == b.reg) <;> simp [go_sem, h0, h1, h2, h3, h4]
def mkS (q : Rw) (src : Int) : Int := if q.cls = 10 then 0 else if q.cls = 11 then 1 else src
def mkM (q : Rw) (imm : Int) : Int := if q.cls = 2 then wrap32 (wrap64 (8 * q.size)) else imm
def mkE (q : Rw) (dst src off imm : Int) : Int :=
  if whB q r0 = true then 1 else if whB q (rowI (opI q) (mkS q src) (mkM q imm)) = false then 1 else tkE (rowI (opI q) (mkS q src) (mkM q imm)) dst (mkS q src) off (mkM q imm)
theorem or_bd (x y : Int) : 0 ≤ bits .or .u8 x y ∧ bits .or .u8 x y < 256 := by
  unfold bits
  split <;> rw [IntKind.wrap_u8] <;> omega
theorem opI_bd (q : Rw) : 0 ≤ opI q ∧ opI q < 256 := by
  unfold opI memOpI
  have hb : ∀ {c : Prop} [Decidable c] {a b : Int}, (0 ≤ a ∧ a < 256) → (0 ≤ b ∧ b < 256) → 0 ≤ (if c then a else b) ∧ (if c then a else b) < 256 := by
    intro c _ a b ha hb
    by_cases h : c <;> simp [h] <;> assumption
  exact hb (or_bd _ _) (hb (or_bd _ _) (hb (hb (or_bd _ _) (hb (or_bd _ _) (hb (or_bd _ _) (hb (or_bd _ _) ⟨by decide, by decide⟩)))) (hb (hb (or_bd _ _) (hb (or_bd _ _) (hb (or_bd _ _) (hb (or_bd _ _) ⟨by decide, by decide⟩)))) (hb (hb (or_bd _ _) (hb (or_bd _ _) (hb (or_bd _ _) (hb (or_bd _ _) ⟨by decide, by decide⟩)))) (hb ⟨by decide, by decide⟩ (hb ⟨by decide, by decide⟩ (hb ⟨by decide, by decide⟩ (hb ⟨by decide, by decide⟩ ⟨by decide, by decide⟩))))))))
theorem whB_iff {a b : Rw} (h : whB a b = true) : a.cls = b.cls ∧ a.op = b.op ∧ a.size = b.size ∧ a.wide = b.wide ∧ a.reg = b.reg := by
  simpa [whB] using h
def findW (q : Rw) : Option RR := rowsI.find? fun r => whB (toRw r) q
def rS (r : RR) (src : Int) : Int := if r.src = 4 then r.at_ else src
def rM (r : RR) (imm : Int) : Int := if r.imm = 4 then r.at_ else imm
def kS (r : RR) : List Int := if r.src = 4 then [r.at_] else [0, 1, 2]
def kM (r : RR) : List Int := if r.imm = 4 then [r.at_] else [0, 16, 32, 64]
def chkRow (r : RR) : Bool :=
  decide (opI (toRw r) = r.op) && decide (0 ≤ r.op) && decide (r.op < 256) &&
  (if r.src = 4 then decide ((r.cls = 10 ∧ r.at_ = 0) ∨ (r.cls = 11 ∧ r.at_ = 1)) else decide (r.cls ≠ 10 ∧ r.cls ≠ 11)) &&
  (if r.imm = 4 then decide (r.cls = 2 ∧ wrap32 (wrap64 (8 * r.size)) = r.at_) else decide (r.cls ≠ 2)) && decide (r.cls ≠ 0) &&
  ((kS r).all fun s => (kM r).all fun m => whB (toRw r) (rowI r.op s m)) && (decide (r.src ≠ 4) || decide (kindS r.at_ = r.at_)) && (decide (r.imm ≠ 4) || decide (kindM r.at_ = r.at_))
theorem chk_all : (rowsI.all chkRow) = true := by kernel_rfl
theorem kind_in (s : Int) : kindS s = 0 ∨ kindS s = 1 ∨ kindS s = 2 := by
  unfold kindS
  by_cases a : s = 0
  · simp [a]
  by_cases b : s = 1
  · simp [b]
  simp [a, b]
theorem kindM_in (m : Int) : kindM m = 0 ∨ kindM m = 16 ∨ kindM m = 32 ∨ kindM m = 64 := by
  unfold kindM
  by_cases a : m = 16
  · simp [a]
  by_cases b : m = 32
  · simp [b]
  by_cases c : m = 64
  · simp [c]
  simp [a, b, c]
theorem found_W {q : Rw} {r : RR} (h : findW q = some r) (src imm : Int) :
    opI q = r.op ∧ mkS q src = rS r src ∧ mkM q imm = rM r imm ∧ whB q r0 = false ∧ whB q (rowI r.op (rS r src) (rM r imm)) = true := by
  have hm : r ∈ rowsI := List.mem_of_find?_eq_some h
  have hw : whB (toRw r) q = true := by simpa using List.find?_some h
  have hc := chk_all
  rw [List.all_eq_true] at hc
  have hr := hc r hm
  simp only [chkRow, Bool.and_eq_true, decide_eq_true_eq, Bool.or_eq_true] at hr
  obtain ⟨⟨⟨⟨⟨⟨⟨⟨h1, _⟩, _⟩, h2⟩, h3⟩, h4⟩, h5⟩, h6⟩, h7⟩ := hr
  obtain ⟨e1, e2, e3, e4, e5⟩ := whB_iff hw
  have e1' : q.cls = r.cls := e1.symm
  have e2' : q.op = r.o := e2.symm
  have e3' : q.size = r.size := e3.symm
  have e4' : q.wide = r.wide := e4.symm
  have e5' : q.reg = r.reg := e5.symm
  refine ⟨?_, ?_, ?_, ?_, ?_⟩
  · rw [← h1]
    unfold opI opO
    rw [e1', e2', e3', e4', e5']
    rfl
  · unfold mkS rS
    rw [e1']
    by_cases hs : r.src = 4
    · rw [if_pos hs] at h2 ⊢
      rcases (by simpa using h2 : (r.cls = 10 ∧ r.at_ = 0) ∨ (r.cls = 11 ∧ r.at_ = 1)) with ⟨a, b⟩ | ⟨a, b⟩
      · rw [if_pos a, b]
      · rw [if_neg (by omega), if_pos a, b]
    · rw [if_neg hs] at h2 ⊢
      have h2' : r.cls ≠ 10 ∧ r.cls ≠ 11 := by simpa using h2
      rw [if_neg h2'.1, if_neg h2'.2]
  · unfold mkM rM
    rw [e1', e3']
    by_cases hs : r.imm = 4
    · rw [if_pos hs] at h3 ⊢
      have h3' : r.cls = 2 ∧ wrap32 (wrap64 (8 * r.size)) = r.at_ := by simpa using h3
      rw [if_pos h3'.1, h3'.2]
    · rw [if_neg hs] at h3 ⊢
      have h3' : r.cls ≠ 2 := by simpa using h3
      rw [if_neg h3']
  · unfold whB
    rw [e1']
    have : (r.cls == r0.cls) = false := by simpa [r0] using h4
    rw [this]
    rfl
  · have hk : whB (toRw r) (rowI r.op (rS r src) (rM r imm)) = true := by
      rw [rowI_kind]
      rw [List.all_eq_true] at h5
      have hs : kindS (rS r src) ∈ kS r := by
        unfold rS kS
        by_cases hs : r.src = 4
        · rw [if_pos hs, if_pos hs]
          rcases h6 with h6 | h6
          · exact absurd hs h6
          · rw [h6]; simp
        · rw [if_neg hs, if_neg hs]
          rcases kind_in src with h | h | h <;> rw [h] <;> simp
      have hmm : kindM (rM r imm) ∈ kM r := by
        unfold rM kM
        by_cases hs : r.imm = 4
        · rw [if_pos hs, if_pos hs]
          rcases h7 with h7 | h7
          · exact absurd hs h7
          · rw [h7]; simp
        · rw [if_neg hs, if_neg hs]
          rcases kindM_in imm with h | h | h | h <;> rw [h] <;> simp
      have h5' := h5 _ hs
      rw [List.all_eq_true] at h5'
      exact h5' _ hmm
    unfold whB at hk ⊢
    rw [e1', e2', e3', e4', e5']
    exact hk
theorem found_none {q : Rw} (h : findW q = none) (src imm : Int) : whB q r0 = true ∨ whB q (rowI (opI q) (mkS q src) (mkM q imm)) = false := by
  cases hw : whB q (rowI (opI q) (mkS q src) (mkM q imm)) with
  | false => exact .inr rfl
  | true =>
    left
    rw [link _ _ _ (opI_bd q).1 (opI_bd q).2] at hw
    cases hF : findI (opI q) (mkS q src) (mkM q imm) with
    | none => rw [hF] at hw; exact hw
    | some r =>
      rw [hF] at hw
      have hm : r ∈ rowsI := List.mem_of_find?_eq_some hF
      have hn := List.find?_eq_none.1 h r hm
      have e := whB_iff hw
      exact absurd (show whB (toRw r) q = true by
        have e1 : q.cls = (toRw r).cls := e.1
        have e2 : q.op = (toRw r).op := e.2.1
        have e3 : q.size = (toRw r).size := e.2.2.1
        have e4 : q.wide = (toRw r).wide := e.2.2.2.1
        have e5 : q.reg = (toRw r).reg := e.2.2.2.2
        unfold whB
        rw [e1, e2, e3, e4, e5]
        simp) hn
end Go.Proofs.YtkapbeipjjcalaaDoor
