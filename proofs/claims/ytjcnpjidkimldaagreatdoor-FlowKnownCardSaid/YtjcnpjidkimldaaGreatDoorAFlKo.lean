/-
  The answers that closed laws of the layers from 13 on take as known.
-/
import Derived.Test.YtjcnpjidkimldaaGreatDoorAQShEv
import Derived.Test.YtjcnpjidkimldaaGreatDoorAStFm
namespace Go.Proofs.YtjcnpjidkimldaaGreatDoor
set_option linter.unusedSimpArgs false
set_option linter.unusedVariables false
set_option maxRecDepth 100000
set_option maxRecDepth 100000
open Go.ChangeShapes Go.WideShapes Go.ChangeAt Go.RowKit

namespace SE
/-- What flow's hasMapsOf and scalar's Settle answer. -/
def orFm (hf tf sf : FuncId) : FuncId → List Value → Option Value := fun f args => match Nat.beq f hf with
  | true => match args with
    | [.agg ⟨a⟩, .int .i64 n] => match rdS a with
      | some S => match hasM S n with
        | b => some (.bool b)
      | none => none
    | _ => none
  | false => match Nat.beq f tf with
    | true => match args with
      | [.agg ⟨a⟩] => match rdR a with
        | some (r, []) => some (.bool (tMap r))
        | _ => none
      | _ => none
    | false => match Nat.beq f sf with
      | true => match args with
        | [.agg ⟨[.int .u64 a, .int .u64 b]⟩, .agg ⟨[.int .u64 c, .int .u64 d]⟩] => match wordB a, wordB b, wordB c, wordB d with
          | true, true, true, true => match settle ((bv a, bv b), (bv c, bv d)) with
            | none => some (.tuple ⟨[sv (optS none), .bool false]⟩)
            | some x => some (.tuple ⟨[sv (optS (some x)), .bool true]⟩)
          | _, _, _, _ => none
        | _ => none
      | false => none
theorem sv_fix (η : Ev.Env) (x : Sc) : Ev.rV η (sv x) = sv x := by unfold sv; simp
theorem orFm_ok (f : FuncId) (args : List Value) (v : Value) (h : orFm 37 80 168 f args = some v) :
    (∀ η, args.map (Ev.rV η) = args) ∧ (∀ η, Ev.rV η v = v) ∧ ∀ W : World, Calls Tryz.prog f args.toArray W fun e W' => e = .returned v ∧ Below W.heap.size W W' := by
  unfold orFm at h
  split at h
  · rename_i hf
    obtain rfl : f = 37 := Nat.eq_of_beq_eq_true hf
    split at h
    · rename_i a n
      split at h
      · rename_i S hS
        obtain ⟨rfl, o⟩ := rdS_spec hS
        obtain rfl := Option.some.inj h
        refine ⟨fun η => ?_, fun η => by simp, fun W => hasM_any S n W⟩
        have e1 := stV_fix η S
        unfold stV at e1
        simp only [List.map_cons, List.map_nil, e1, Ev.rV_int]
      · cases h
    · cases h
  · split at h
    · rename_i hf
      obtain rfl : f = 80 := Nat.eq_of_beq_eq_true hf
      split at h
      · rename_i a
        split at h
        · rename_i r hr
          obtain ⟨e, o⟩ := rdR_spec hr
          dsimp only at e o
          rw [List.append_nil] at e
          subst e
          obtain rfl := Option.some.inj h
          refine ⟨fun η => ?_, fun η => by simp, fun W => tMap_any r W⟩
          have e1 := rC_fix η r
          simp only [List.map_cons, List.map_nil, Ev.rV_agg, List.map_toArray]
          simp [e1]
        · cases h
      · cases h
    · split at h
      · rename_i hf
        obtain rfl : f = 168 := Nat.eq_of_beq_eq_true hf
        split at h
        · rename_i a b c d
          split at h
          · rename_i h1 h2 h3 h4
            have key := fun W => cSettle_any (bv a, bv b) (bv c, bv d) W
            unfold tv at key
            dsimp only at key
            rw [wordB_spec h1, wordB_spec h2, wordB_spec h3, wordB_spec h4] at key
            split at h
            · rename_i hs
              obtain rfl := Option.some.inj h
              rw [hs] at key
              exact ⟨fun η => by simp, fun η => by simp [sv_fix], key⟩
            · rename_i x hs
              obtain rfl := Option.some.inj h
              rw [hs] at key
              exact ⟨fun η => by simp, fun η => by simp [sv_fix], key⟩
          · cases h
        · cases h
      · cases h
end SE
def flOr (P : Program) : FuncId → List Value → Ev.Tr → Nat → Option Ev.Rv :=
  Ev.orElse2 (Is.orSh P 34 76) (Ev.orElse2 (Ev.ofData (SE.orSt 36 137 9)) (Ev.ofData (SE.orFm 37 80 168)))
theorem flOr_ok {n0 : Nat} {w0 : World} (hn : 0 < n0) : Ev.OrcOk Tryz.prog n0 w0 (flOr Tryz.prog) :=
  Ev.orElse2_ok (Is.orSh_ok hn) (Ev.orElse2_ok (Ev.ofData_ok fun f args v h => by
    obtain ⟨h1, h2, h3⟩ := SE.orSt_ok f args v h
    exact ⟨h1, h2, fun W _ => h3 W⟩) (Ev.ofData_ok fun f args v h => by
    obtain ⟨h1, h2, h3⟩ := SE.orFm_ok f args v h
    exact ⟨h1, h2, fun W _ => h3 W⟩))
end Go.Proofs.YtjcnpjidkimldaaGreatDoor
