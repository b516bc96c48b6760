/-
  What Join and May answer at the states of the closed law, as the evaluator of closed calls takes them.
-/
import Derived.Test.YtoanbjnhoggpjaaFStX
import Derived.Test.YtoanbjnhoggpjaaFEvF
namespace Go.Proofs.Ytoanbjnhoggpjaa
set_option linter.unusedSimpArgs false
set_option linter.unusedVariables false
set_option maxRecDepth 100000
open Go.ChangeShapes Go.WideShapes Go.ChangeAt Go.RowKit Me

def eqI (a b : Int) : Bool := match a, b with
  | .ofNat x, .ofNat y => Nat.beq x y
  | .negSucc x, .negSucc y => Nat.beq x y
  | _, _ => false
theorem eqI_eq {a b : Int} (h : eqI a b = true) : a = b := by
  unfold eqI at h
  split at h
  · exact congrArg Int.ofNat (Nat.eq_of_beq_eq_true h)
  · exact congrArg Int.negSucc (Nat.eq_of_beq_eq_true h)
  · cases h
def eqC (a b : Value) : Bool := match a, b with
  | .int .u8 x, .int .u8 y => eqI x y
  | .int .i64 x, .int .i64 y => eqI x y
  | .int .u64 x, .int .u64 y => eqI x y
  | .bool true, .bool true => true
  | .bool false, .bool false => true
  | _, _ => false
theorem eqC_eq {a b : Value} (h : eqC a b = true) : a = b := by
  unfold eqC at h
  split at h <;> first | (cases h; done) | (rw [eqI_eq h]; done) | rfl
def eqL : List Value → List Value → Bool
  | [], [] => true
  | a :: l, b :: m => match eqC a b with
    | true => eqL l m
    | false => false
  | _, _ => false
theorem eqL_eq : ∀ {l m : List Value}, eqL l m = true → l = m
  | [], [], _ => rfl
  | a :: l, b :: m, h => by
    unfold eqL at h
    split at h
    · rename_i e
      rw [eqC_eq e, eqL_eq h]
    · cases h
  | [], _ :: _, h => by cases h
  | _ :: _, [], h => by cases h
def knN (l : Bool) (v m lo hi : B64) : Rg := ⟨1, l, 0, ((v, m), (lo, hi)), 0, 0⟩
def knR (k : Nat) (r : Rg) (p : Int) : St := ⟨fun i => if i = k then r else r0, fun _ => k0, p⟩
def knK (S : St) (k : Nat) (x : Sk) : St := ⟨S.rg, fun i => if i = k then x else S.sk i, S.p⟩
def knA1 : St := knR 0 (knN true 3#64 0#64 3#64 3#64) 3
def knB1 : St := knR 0 (knN true 5#64 0#64 5#64 5#64) 5
def knA2 : St := knK knA1 2 ⟨15#8, r0⟩
def knB2 : St := knK knB1 2 ⟨255#8, knN false 7#64 0#64 7#64 7#64⟩
def knC : St := knK st0 2 ⟨255#8, ⟨4, false, 0, sc0, 0, 0⟩⟩
def knS : List St := [knR 3 ⟨2, false, 0, sc0, 1, 0⟩ 0, knR 3 ⟨3, false, 0, sc0, 2, 1⟩ 0, knR 3 ⟨5, false, -1, sc0, 0, 0⟩ 0, knR 3 ⟨8, false, 0, sc0, 0, 0⟩ 0, knR 3 (knN false 0#64 7#64 5#64 3#64) 0, knR 3 ⟨4, false, 0, sc0, 0, 1048577⟩ 0, knR 3 (knN true 0#64 131071#64 0#64 65536#64) 0, knR 3 ⟨0, false, 1, sc0, 0, 0⟩ 0, knK st0 0 ⟨15#8, ⟨4, false, 0, sc0, 0, 0⟩⟩, knR 0 r0 (-1), knR 0 r0 65536]
def knM (a : List Value) : List St → Option Value
  | [] => none
  | S :: l => match eqL a (stC S) with
    | true => some (.bool (sMay S))
    | false => knM a l
def knJ (a b : List Value) : List (St × St) → Option Value
  | [] => none
  | (A, B) :: l => match eqL a (stC A) with
    | true => match eqL b (stC B) with
      | true => some (stV (sJoin A B))
      | false => knJ a b l
    | false => knJ a b l
def knP : List (St × St) := [(knA1, knB1), (knA2, knB2), (knA2, knC)]
def stOr (jf mf wf : FuncId) : FuncId → List Value → Option Value := fun f args => match Nat.beq f jf with
  | true => match args with
    | [.agg ⟨a⟩, .agg ⟨b⟩] => knJ a b knP
    | _ => none
  | false => match Nat.beq f mf with
    | true => match args with
      | [.agg ⟨a⟩] => knM a knS
      | _ => none
    | false => match Nat.beq f wf with
      | true => match args with
        | [] => some (.bool true)
        | _ => none
      | false => none
theorem knR_ok {k : Nat} {r : Rg} {p : Int} (h : ROk r) (hp : -9223372036854775808 ≤ p ∧ p < 9223372036854775808) : StOk (knR k r p) :=
  ⟨fun i _ => by show ROk (if i = k then r else r0); split; exact h; exact st0_ok.1 0 (by decide), fun i hi => st0_ok.2.1 0 (by decide), hp⟩
theorem knK_ok {S : St} {k : Nat} {x : Sk} (hS : StOk S) (h : ROk x.r) : StOk (knK S k x) :=
  ⟨hS.1, fun i hi => by show ROk (if i = k then x else S.sk i).r; split; exact h; exact hS.2.1 i hi, hS.2.2⟩
theorem knS_ok : ∀ S ∈ knS, StOk S := by
  intro S h
  simp only [knS, List.mem_cons, List.not_mem_nil, or_false] at h
  rcases h with rfl | rfl | rfl | rfl | rfl | rfl | rfl | rfl | rfl | rfl | rfl
  all_goals first | exact knR_ok (by unfold ROk; decide) (by decide) | exact knK_ok st0_ok (by unfold ROk; decide)
theorem knP_ok : ∀ q ∈ knP, StOk q.1 ∧ StOk q.2 := by
  intro q h
  have a1 : StOk knA1 := knR_ok (by unfold ROk; decide) (by decide)
  have b1 : StOk knB1 := knR_ok (by unfold ROk; decide) (by decide)
  have a2 : StOk knA2 := knK_ok a1 (by unfold ROk; decide)
  have b2 : StOk knB2 := knK_ok b1 (by unfold ROk; decide)
  have c : StOk knC := knK_ok st0_ok (by unfold ROk; decide)
  simp only [knP, List.mem_cons, List.not_mem_nil, or_false] at h
  rcases h with rfl | rfl | rfl
  · exact ⟨a1, b1⟩
  · exact ⟨a2, b2⟩
  · exact ⟨a2, c⟩
theorem knM_some {a : List Value} {v : Value} : ∀ {l : List St}, knM a l = some v → ∃ S ∈ l, a = stC S ∧ v = .bool (sMay S)
  | [], h => by cases h
  | S :: l, h => by
    unfold knM at h
    split at h
    · rename_i e
      exact ⟨S, List.mem_cons_self, eqL_eq e, (Option.some.inj h).symm⟩
    · obtain ⟨T, hT, k⟩ := knM_some h
      exact ⟨T, List.mem_cons_of_mem _ hT, k⟩
theorem knJ_some {a b : List Value} {v : Value} : ∀ {l : List (St × St)}, knJ a b l = some v → ∃ q ∈ l, a = stC q.1 ∧ b = stC q.2 ∧ v = stV (sJoin q.1 q.2)
  | [], h => by cases h
  | (A, B) :: l, h => by
    unfold knJ at h
    split at h
    · rename_i e
      split at h
      · rename_i e2
        exact ⟨(A, B), List.mem_cons_self, eqL_eq e, eqL_eq e2, (Option.some.inj h).symm⟩
      · obtain ⟨T, hT, k⟩ := knJ_some h
        exact ⟨T, List.mem_cons_of_mem _ hT, k⟩
    · obtain ⟨T, hT, k⟩ := knJ_some h
      exact ⟨T, List.mem_cons_of_mem _ hT, k⟩
theorem rC_fix (η : Ev.Env) (r : Rg) : (rC r).map (Ev.rV η) = rC r := by unfold rC; simp
theorem kC_fix (η : Ev.Env) (x : Sk) : (kC x).map (Ev.rV η) = kC x := by unfold kC; simp [rC_fix]
theorem stC_fix (η : Ev.Env) (S : St) : (stC S).map (Ev.rV η) = stC S := by
  unfold stC regC stkC
  simp only [List.map_append, List.map_flatMap, rC_fix, kC_fix, List.map_cons, List.map_nil, Ev.rV_int]
theorem stV_fix (η : Ev.Env) (S : St) : Ev.rV η (stV S) = stV S := by
  unfold stV
  have := stC_fix η S
  simp [this]
theorem stOr_ok (f : FuncId) (args : List Value) (v : Value) (h : stOr 16 17 18 f args = some v) :
    (∀ η, args.map (Ev.rV η) = args) ∧ (∀ η, Ev.rV η v = v) ∧ ∀ W : World, 0 ≤ W.heap.size → Calls Try.prog f args.toArray W fun e W' => e = .returned v ∧ Below W.heap.size W W' := by
  unfold stOr at h
  split at h
  · rename_i hf
    obtain rfl : f = 16 := Nat.eq_of_beq_eq_true hf
    split at h
    · rename_i a b
      obtain ⟨q, hq, rfl, rfl, rfl⟩ := knJ_some h
      obtain ⟨o1, o2⟩ := knP_ok q hq
      refine ⟨fun η => ?_, fun η => stV_fix η _, fun W _ => uJoin_any q.1 q.2 o1 o2 W⟩
      have e1 := stV_fix η q.1
      have e2 := stV_fix η q.2
      unfold stV at e1 e2
      simp only [List.map_cons, List.map_nil, e1, e2]
    · cases h
  · split at h
    · rename_i hf
      obtain rfl : f = 17 := Nat.eq_of_beq_eq_true hf
      split at h
      · rename_i a
        obtain ⟨S, hS, rfl, rfl⟩ := knM_some h
        refine ⟨fun η => ?_, fun η => by simp, fun W _ => uMay_any S (knS_ok S hS) W⟩
        have e1 := stV_fix η S
        unfold stV at e1
        simp only [List.map_cons, List.map_nil, e1]
      · cases h
    · split at h
      · rename_i hf
        obtain rfl : f = 18 := Nat.eq_of_beq_eq_true hf
        split at h
        · obtain rfl := Option.some.inj h
          exact ⟨fun _ => rfl, fun η => by simp, fun W _ => wakes_any W⟩
        · cases h
      · cases h
end Go.Proofs.Ytoanbjnhoggpjaa
