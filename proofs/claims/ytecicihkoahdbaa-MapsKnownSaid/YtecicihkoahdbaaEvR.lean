/-
  A closed call evaluated: calls, comparisons with nil, the other operations that leave memory alone.
-/
import Derived.Test.YtecicihkoahdbaaEvQ
namespace Go.Proofs.Ytecicihkoahdbaa.Ev
set_option linter.unusedSimpArgs false
set_option linter.unusedVariables false
open Go Go.RowKit

section
variable {P : Program} {n0 : Nat} {w0 : World} {H : Tr} {n : Nat} {η : Env} {W : World}

/-! ### Comparisons with nil -/
def evEq (P : Program) (t : TypeId) (x y : Value) : Option Bool :=
  match P.underlying t, x, y with
  | some (.pointer _), .pointer none, .pointer b => some b.isNone
  | some (.pointer _), .pointer (some _), .pointer none => some false
  | some (.slice _), .slice none _ _, .slice b _ _ => some b.isNone
  | some (.slice _), .slice (some _) _ _, .slice none _ _ => some false
  | some (.map _ _), .map none, .map b => some b.isNone
  | some (.map _ _), .map (some _), .map none => some false
  | some (.func _ _ _), .func _ _ _, .nilFunc => some false
  | some (.func _ _ _), .nilFunc, .func _ _ _ => some false
  | some (.interface _), .iface _ _, .nilIface => some false
  | some (.interface _), .nilIface, .iface _ _ => some false
  | _, _, _ => none
theorem eqIn_sound {t : TypeId} {x y : Value} {b : Bool} {d : Nat} (he : evEq P t x y = some b) (W : World) : (Op.equalIn (d + 1) t (rV η x) (rV η y)).run P W = .ok b W := by
  unfold evEq at he
  split at he <;> simp only [Option.some.injEq, reduceCtorEq] at he <;> subst he <;> rename_i hu <;>
    simp only [Op.equalIn, Sem.run_bind, run_underlying hu, Result.andThen_ok, rV_pnone, rV_psome, rV_snone, rV_ssome, rV_mnone, rV_msome, rV_nilFunc, rV_func, rV_iface, rV_nilIface, Sem.run_pure]
  case h_1 b => cases b <;> simp
  case h_3 b _ _ => cases b <;> simp
  case h_5 b => cases b <;> simp
def evNil (P : Program) (op : BinOp) (t : TypeId) (x y : Value) : Option Value :=
  match op with
  | .eql => (evEq P t x y).map .bool
  | .neq => (evEq P t x y).map fun b => .bool (!b)
  | _ => none
theorem nil_sound {op : BinOp} {t : TypeId} {x y v : Value} {xo yo : Operand} (he : evNil P op t x y = some v) (W : World) :
    Wf n v ∧ (do eqGuard op t xo yo (rV η x) (rV η y); binOp op t (rV η x) (rV η y) : Sem Value).run P W = .ok (rV η v) W := by
  have key : ∀ b, evEq P t x y = some b → (do eqGuard .eql t xo yo (rV η x) (rV η y); binOp .eql t (rV η x) (rV η y) : Sem Value).run P W = .ok (.bool b) W ∧
      (do eqGuard .neq t xo yo (rV η x) (rV η y); binOp .neq t (rV η x) (rV η y) : Sem Value).run P W = .ok (.bool (!b)) W := by
    intro b hb
    have hq : (Op.equal t (rV η x) (rV η y)).run P W = .ok b W := eqIn_sound (d := 9999) hb W
    unfold evEq at hb
    split at hb <;> simp only [Option.some.injEq, reduceCtorEq] at hb <;> rename_i hu <;>
      (try simp only [rV_pnone, rV_psome, rV_snone, rV_ssome, rV_mnone, rV_msome, rV_nilFunc, rV_func, rV_iface, rV_nilIface] at hq ⊢)
    case h_1 c => cases c <;> (try simp only [rV_pnone, rV_psome] at hq ⊢) <;> simp [eqGuard, binOp, hq]
    case h_3 c _ _ => cases c <;> (try simp only [rV_snone, rV_ssome] at hq ⊢) <;> simp [eqGuard, binOp, hq]
    case h_5 c => cases c <;> (try simp only [rV_mnone, rV_msome] at hq ⊢) <;> simp [eqGuard, binOp, hq]
    all_goals simp [eqGuard, binOp, hq]
  unfold evNil at he
  split at he
  · cases hb : evEq P t x y with
    | none => rw [hb] at he; simp at he
    | some b =>
      rw [hb] at he; simp at he; subst he
      exact ⟨Wf.bool _ _, by rw [(key b hb).1, rV_bool]⟩
  · cases hb : evEq P t x y with
    | none => rw [hb] at he; simp at he
    | some b =>
      rw [hb] at he; simp at he; subst he
      exact ⟨Wf.bool _ _, by rw [(key b hb).2, rV_bool]⟩
  · simp at he

/-! ### Calls -/
def isOurs (P : Program) (f : FuncId) : Bool :=
  match P.funcs[f]? with
  | some fn => fn.body.isSome && !(fn.name == "runtime.NumGoroutine")
  | none => false
theorem callFunc_sound {f : FuncId} {args : Array Value} (h : isOurs P f = true) (W : World) : (callFunc f args).run P W = .ok (.enter f args) W := by
  unfold isOurs at h
  split at h
  · rename_i fn hf
    simp only [Bool.and_eq_true, Bool.not_eq_true'] at h
    have hb : fn.body.isNone = false := by cases hx : fn.body <;> simp_all
    have h2 : ¬ fn.name = "runtime.NumGoroutine" := by simpa using h.2
    have h3 : ¬ fn.body = none := fun e => by simp [e] at hb
    simp [callFunc, program, Sem.run, hf, h2, h3]
  · simp at h
/-- What a call by a value enters. -/
def evCall (P : Program) (f : Value) (args : List Value) : Option Out :=
  match f with
  | .func (.func g) first captured => if isOurs P g then some (.enter g (first.toList ++ args ++ captured.toList)) else none
  | _ => none
theorem call_sound (h : Inv P n0 w0 H n η W) {ρ' : Operand → Value} {c : Call} {fo : Operand} {f : Value} {args : List Value} {out : Out} {ty : TypeId} (hc : c.callee = .value fo) (hf : ρ' fo = rV η f)
    (ha : c.args.map ρ' = (args.map (rV η)).toArray) (hw : Wf n f) (hwa : WfL n args) (he : evCall P f args = some out) :
    Runs P n0 w0 η n W (do let d ← resolve ρ' c ty; invoke d.target d.args) ⟨out, H, n⟩ := by
  unfold evCall at he
  split at he
  · rename_i g first captured
    split at he
    · rename_i hg
      simp only [Option.some.injEq] at he; subst he
      obtain ⟨h1, h2⟩ := hw.func
      refine ⟨η, W, .refl _ _, Nat.le_refl _, h, ?_, ?_⟩
      · intro v hv
        rcases List.mem_append.1 hv with hv | hv
        · rcases List.mem_append.1 hv with hv | hv
          · exact h1 v hv
          · exact hwa v hv
        · exact h2 v hv
      · simp only [resolve, hc, hf, rV_func, rFn, Deferred.ofValue, ha, Sem.run_bind, Sem.run_pure, Result.andThen_ok, invoke, callFunc_sound hg]
        congr 2
        apply Array.ext'
        simp
    · simp at he
  · simp at he
end
end Go.Proofs.Ytecicihkoahdbaa.Ev
