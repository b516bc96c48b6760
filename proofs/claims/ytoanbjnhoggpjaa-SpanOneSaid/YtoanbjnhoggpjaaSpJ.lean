/-
  Contracts of the shifts with the sign, as the landed code has them.
-/
import Derived.Test.YtoanbjnhoggpjaaSpI
namespace Go.Proofs.Ytoanbjnhoggpjaa
set_option linter.unusedSimpArgs false
set_option linter.unusedVariables false
set_option maxRecDepth 100000
open Go.ChangeShapes Go.WideShapes Go.ChangeAt Go.RowKit

attribute [go_sem] ib_of2
def drawU (u : Nat) (T n : B64) (below above : Nat) : B64 := if ((n <<< u).sshiftRight u).toInt < 0 then ((n <<< u).sshiftRight u).sshiftRight above &&& T else n >>> below
theorem drawU_is (c : Bool) (n : B64) (below above : Nat) : drawB c n below above = drawU (if c then 0 else 32) (topW c) n below above := by
  cases c
  · simp only [drawB, drawU, Bool.false_eq_true, if_false]
  · simp only [drawB, drawU, if_true, BitVec.shiftLeft_zero, BitVec.sshiftRight_zero]
set_option maxHeartbeats 1000000 in
theorem cSign (p q : Nat) (u : Nat) (c : Bool) (n below above : B64) (w : World) (hu : u < 64) (hb : below.toNat < 64) (ha : above.toNat < 64) (hp : w.cell? ⟨p, 0, none⟩ = some (.int .i64 (u : Int))) (hq : w.cell? ⟨q, 0, none⟩ = some (.int .i64 (szI c))) :
    Calls Try.prog 197 #[.int .u64 (ub n), .int .u64 (ub below), .int .u64 (ub above), .pointer (some ⟨p, 0, none⟩), .pointer (some ⟨q, 0, none⟩)] w fun e w' => e = .returned (.int .u64 (ub (drawU u (topW c) n below.toNat above.toNat))) ∧ w.drew = w' := by
  have HL := hid fun W => sTop_any c W
  generalize szI c = SZ at *
  generalize topW c = T at *
  have k1 : 0 ≤ ub below := ub_ge below
  have k2 : ub below ≤ 64 := by unfold ub; omega
  have k3 : 0 ≤ ub above := ub_ge above
  have k4 : ub above ≤ 64 := by unfold ub; omega
  unfold drawU
  by_cases hn : ((n <<< u).sshiftRight u).toInt < 0
  · rw [if_pos hn]
    have hn' : ib ((n <<< u).sshiftRight u) < 0 := hn
    clear hn
    go_enter Try.func197, Try.ntmps197
    go_wp2_with fail
    go_region_held3 (fun w' => w'.cell? ⟨p, 0, none⟩ = some (.int .i64 (u : Int)) ∧ Below w.heap.size w w')
      (first | (go_split_ands; exact ⟨by assumption, by assumption⟩) | exact ⟨cn (below_dr w) hp, below_dr w⟩)
      (fail)
    have hq' := cn (below_dr w) hq
    go_wp2_with fail
    refine (HL.out _).mono ?_
    rintro e wq ⟨rfl, rfl⟩
    go_wp2
    go_ret
    refine ⟨congrArg Ending.returned (congrArg (Value.int IntKind.u64) ?_), rfl⟩
    simp only [ib_of2, ib_shr, ib_wrap, ub_and]
  · rw [if_neg hn]
    have hn' : ¬ ib ((n <<< u).sshiftRight u) < 0 := hn
    clear hn
    go_enter Try.func197, Try.ntmps197
    go_wp2_with fail
    go_region_held3 (fun w' => w'.cell? ⟨p, 0, none⟩ = some (.int .i64 (u : Int)) ∧ Below w.heap.size w w')
      (first | (go_split_ands; exact ⟨by assumption, by assumption⟩) | exact ⟨cn (below_dr w) hp, below_dr w⟩)
      (fail)
    go_wp2
    go_ret
    exact ⟨rfl, rfl⟩
end Go.Proofs.Ytoanbjnhoggpjaa
