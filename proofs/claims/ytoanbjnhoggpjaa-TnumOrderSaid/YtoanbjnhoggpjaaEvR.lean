/-
  A closed call evaluated: calls, comparisons with nil, the other operations that leave memory alone.
-/
import Derived.Test.YtoanbjnhoggpjaaEvQ
namespace Go.Proofs.Ytoanbjnhoggpjaa.Ev
set_option linter.unusedSimpArgs false
set_option linter.unusedVariables false
set_option maxRecDepth 100000
open Go Go.RowKit

section
variable {P : Program} {n0 : Nat} {w0 : World} {H : Tr} {n : Nat} {η : Env} {W : World}

/-! ### Comparisons with nil -/
def evEq (P : Program) (t : TypeId) (x y : Value) : Option Bool :=
  match P.underlying t, x, y with
  | some (.pointer _), .pointer none, .pointer b => some b.isNone
  | some (.pointer _), .pointer (some _), .pointer none => some false
  | some (.slice _), .slice none _ _, .slice b _ _ => some b.isNone
  | some (.slice _), .slice (some _) _ _, .slice none _ _ => some false
  | some (.map _ _), .map none, .map b => some b.isNone
  | some (.map _ _), .map (some _), .map none => some false
  | some (.func _ _ _), .func _ _ _, .nilFunc => some false
  | some (.func _ _ _), .nilFunc, .func _ _ _ => some false
  | some (.interface _), .iface _ _, .nilIface => some false
  | some (.interface _), .nilIface, .iface _ _ => some false
  | _, _, _ => none
theorem eqIn_sound {t : TypeId} {x y : Value} {b : Bool} {d : Nat} (he : evEq P t x y = some b) (W : World) : (Op.equalIn (d + 1) t (rV η x) (rV η y)).run P W = .ok b W := by
  unfold evEq at he
  split at he <;> simp only [Option.some.injEq, reduceCtorEq] at he <;> subst he <;> rename_i hu <;>
    simp only [Op.equalIn, Sem.run_bind, run_underlying hu, Result.andThen_ok, rV_pnone, rV_psome, rV_snone, rV_ssome, rV_mnone, rV_msome, rV_nilFunc, rV_func, rV_iface, rV_nilIface, Sem.run_pure]
  case h_1 b => cases b <;> simp
  case h_3 b _ _ => cases b <;> simp
  case h_5 b => cases b <;> simp
def evNil (P : Program) (op : BinOp) (t : TypeId) (x y : Value) : Option Value :=
  match op with
  | .eql => (evEq P t x y).map .bool
  | .neq => (evEq P t x y).map fun b => .bool (!b)
  | _ => none
theorem nil_sound {op : BinOp} {t : TypeId} {x y v : Value} {xo yo : Operand} (he : evNil P op t x y = some v) (W : World) :
    Wf n v ∧ (do eqGuard op t xo yo (rV η x) (rV η y); binOp op t (rV η x) (rV η y) : Sem Value).run P W = .ok (rV η v) W := by
  have key : ∀ b, evEq P t x y = some b → (do eqGuard .eql t xo yo (rV η x) (rV η y); binOp .eql t (rV η x) (rV η y) : Sem Value).run P W = .ok (.bool b) W ∧
      (do eqGuard .neq t xo yo (rV η x) (rV η y); binOp .neq t (rV η x) (rV η y) : Sem Value).run P W = .ok (.bool (!b)) W := by
    intro b hb
    have hq : (Op.equal t (rV η x) (rV η y)).run P W = .ok b W := eqIn_sound (d := 9999) hb W
    unfold evEq at hb
    split at hb <;> simp only [Option.some.injEq, reduceCtorEq] at hb <;> rename_i hu <;>
      (try simp only [rV_pnone, rV_psome, rV_snone, rV_ssome, rV_mnone, rV_msome, rV_nilFunc, rV_func, rV_iface, rV_nilIface] at hq ⊢)
    case h_1 c => cases c <;> (try simp only [rV_pnone, rV_psome] at hq ⊢) <;> simp [eqGuard, binOp, hq]
    case h_3 c _ _ => cases c <;> (try simp only [rV_snone, rV_ssome] at hq ⊢) <;> simp [eqGuard, binOp, hq]
    case h_5 c => cases c <;> (try simp only [rV_mnone, rV_msome] at hq ⊢) <;> simp [eqGuard, binOp, hq]
    all_goals simp [eqGuard, binOp, hq]
  unfold evNil at he
  split at he
  · cases hb : evEq P t x y with
    | none => rw [hb] at he; simp at he
    | some b =>
      rw [hb] at he; simp at he; subst he
      exact ⟨Wf.bool _ _, by rw [(key b hb).1, rV_bool]⟩
  · cases hb : evEq P t x y with
    | none => rw [hb] at he; simp at he
    | some b =>
      rw [hb] at he; simp at he; subst he
      exact ⟨Wf.bool _ _, by rw [(key b hb).2, rV_bool]⟩
  · simp at he

/-! ### Calls -/
def isOurs (P : Program) (f : FuncId) : Bool :=
  match P.funcs[f]? with
  | some fn => fn.body.isSome && !(fn.name == "runtime.NumGoroutine")
  | none => false
theorem callFunc_sound {f : FuncId} {args : Array Value} (h : isOurs P f = true) (W : World) : (callFunc f args).run P W = .ok (.enter f args) W := by
  unfold isOurs at h
  split at h
  · rename_i fn hf
    simp only [Bool.and_eq_true, Bool.not_eq_true'] at h
    have hb : fn.body.isNone = false := by cases hx : fn.body <;> simp_all
    have h2 : ¬ fn.name = "runtime.NumGoroutine" := by simpa using h.2
    have h3 : ¬ fn.body = none := fun e => by simp [e] at hb
    simp [callFunc, program, Sem.run, hf, h2, h3]
  · simp at h
/-- What a call by a value enters. -/
def evCall (P : Program) (f : Value) (args : List Value) : Option Out :=
  match f with
  | .func (.func g) first captured => if isOurs P g then some (.enter g (first.toList ++ args ++ captured.toList)) else none
  | _ => none
theorem call_sound (h : Inv P n0 w0 H n η W) {ρ' : Operand → Value} {c : Call} {fo : Operand} {f : Value} {args : List Value} {out : Out} {ty : TypeId} (hc : c.callee = .value fo) (hf : ρ' fo = rV η f)
    (ha : c.args.map ρ' = (args.map (rV η)).toArray) (hw : Wf n f) (hwa : WfL n args) (he : evCall P f args = some out) :
    Runs P n0 w0 η n W (do let d ← resolve ρ' c ty; invoke d.target d.args) ⟨out, H, n⟩ := by
  unfold evCall at he
  split at he
  · rename_i g first captured
    split at he
    · rename_i hg
      simp only [Option.some.injEq] at he; subst he
      obtain ⟨h1, h2⟩ := hw.func
      refine ⟨η, W, .refl _ _, Nat.le_refl _, h, ?_, ?_⟩
      · intro v hv
        rcases List.mem_append.1 hv with hv | hv
        · rcases List.mem_append.1 hv with hv | hv
          · exact h1 v hv
          · exact hwa v hv
        · exact h2 v hv
      · simp only [resolve, hc, hf, rV_func, rFn, Deferred.ofValue, ha, Sem.run_bind, Sem.run_pure, Result.andThen_ok, invoke, callFunc_sound hg]
        congr 2
        apply Array.ext'
        simp
    · simp at he
  · simp at he

/-! ### Interfaces -/
def isIface : TypeDesc → Bool
  | .interface _ => true
  | _ => false
def evMakeI (P : Program) (t : TypeId) (x : Value) : Option Value :=
  match P.underlying t with
  | some d => if isIface d then none else some (.iface t x)
  | none => none
theorem makeI_sound {t : TypeId} {x v : Value} (hx : Wf n x) (he : evMakeI P t x = some v) (W : World) : Wf n v ∧ (Instr.makeInterface t (rV η x)).run P W = .ok (rV η v) W := by
  unfold evMakeI at he
  split at he
  · rename_i d hu
    split at he
    · simp at he
    · rename_i hd
      simp only [Option.some.injEq] at he; subst he
      refine ⟨Wf.iface.2 hx, ?_⟩
      simp only [Instr.makeInterface, Sem.run_bind, run_underlying hu, Result.andThen_ok]
      cases d <;> first | (simp [isIface] at hd; done) | simp
  · simp at he
def evAssert (P : Program) (x : Value) (t : TypeId) (ok : Bool) : Option Value :=
  match P.underlying t, x with
  | some d, .iface u v => if isIface d then none else if u = t then some (if ok then .tuple #[v, .bool true] else v) else none
  | _, _ => none
theorem assert_sound {x v : Value} {xt t : TypeId} {ok : Bool} (hx : Wf n x) (he : evAssert P x t ok = some v) (W : World) : Wf n v ∧ (Instr.typeAssert (rV η x) xt t ok).run P W = .ok (rV η v) W := by
  unfold evAssert at he
  split at he
  · rename_i d u w hu
    split at he
    · simp at he
    · rename_i hd
      split at he
      · rename_i hut
        simp only [Option.some.injEq] at he; subst he; subst hut
        have hw := Wf.iface.1 hx
        cases ok with
        | true =>
          refine ⟨WfL.tuple.2 (fun z hz => ?_), ?_⟩
          · simp at hz
            rcases hz with rfl | rfl
            · exact hw
            · exact Wf.bool _ _
          · simp only [Instr.typeAssert, Sem.run_bind, run_underlying hu, Result.andThen_ok, rV_iface]
            cases d <;> first | (simp [isIface] at hd; done) | simp
        | false =>
          refine ⟨hw, ?_⟩
          simp only [Instr.typeAssert, Sem.run_bind, run_underlying hu, Result.andThen_ok, rV_iface]
          cases d <;> first | (simp [isIface] at hd; done) | simp
      · simp at he
  · simp at he
/-- The function that a method of a dynamic type is, its receiver handed over as it is. -/
def evMethod (P : Program) (t : TypeId) (name : String) : Option FuncId :=
  match P.info? t, P.underlying t with
  | some i, some d => match i.methods.find? (·.name == name) with
    | some m => if m.path.toList.isEmpty then match m.func, d with
        | some (f, true), .pointer _ => some f
        | some (_, true), _ => none
        | some (_, false), .pointer _ => none
        | some (f, false), _ => some f
        | none, _ => none
      else none
    | none => none
  | _, _ => none
theorem method_sound {t : TypeId} {name : String} {f : FuncId} {k : Nat} (he : evMethod P t name = some f) (v : Value) (W : World) : (method (k + 1) t v name).run P W = .ok (f, v) W := by
  unfold evMethod at he
  split at he
  case h_2 => simp at he
  rename_i i d hi hu
  split at he
  case h_2 => simp at he
  rename_i m hm
  split at he
  case isFalse => simp at he
  rename_i hp
  have hp' : m.path.toList = [] := by simpa using hp
  have hti : (typeInfo t).run P W = .ok i W := by simp [typeInfo, hi]
  split at he
  · rename_i f' e hf
    simp only [Option.some.injEq] at he; subst he
    simp only [method, Sem.run_bind, hti, Result.andThen_ok, hm, hp', follow, Sem.run_pure, hf, receiverAt, run_underlying hu, Place.get]
  · simp at he
  · simp at he
  · rename_i f' hf hne
    simp only [Option.some.injEq] at he; subst he
    obtain ⟨dd, hdd⟩ : ∃ dd, P.underlying t = some dd := ⟨_, hu⟩
    have e := Option.some.inj (hdd.symm.trans hu)
    subst e
    simp only [method, Sem.run_bind, hti, Result.andThen_ok, hm, hp', follow, Sem.run_pure, hf, receiverAt, run_underlying hdd]
    cases dd <;> first | (exact absurd rfl (hne _)) | simp [Place.get]
  · simp at he
/-- The function and the receiver that a method of a dynamic type is; a method of a struct that the one pointed to has within it, too. -/
def evRecv (P : Program) (H : Tr) (t : TypeId) (v : Value) (name : String) : Option (FuncId × Value) :=
  match evMethod P t name with
  | some f => some (f, v)
  | none => match P.info? t, v with
    | some i, .pointer (some ⟨b, o, none⟩) => match i.methods.find? (·.name == name) with
      | some m => match m.path.toList, m.func with
        | [s], some (f, pr) => match P.underlying s.struct with
          | some (.struct fields) => match fields[s.index]? with
            | some fd => match sizeIn P fd.type, P.underlying fd.type, s.deref with
              | some (_ + 1), some (.pointer _), true => none
              | some (_ + 1), some _, true =>
                if pr then some (f, .pointer (some ((⟨b, o, none⟩ : Addr).add fd.offset)))
                else (evLoad P H fd.type (.pointer (some ((⟨b, o, none⟩ : Addr).add fd.offset)))).map fun u => (f, u)
              | _, _, _ => none
            | none => none
          | _ => none
        | _, _ => none
      | none => none
    | _, _ => none
theorem recv_sound (h : Inq P n0 H n η W) {t : TypeId} {v u : Value} {name : String} {f : FuncId} {k : Nat} (hv : Wf n v) (he : evRecv P H t v name = some (f, u)) : Wf n u ∧ (method (k + 1) t (rV η v) name).run P W = .ok (f, rV η u) W := by
  unfold evRecv at he
  split at he
  · rename_i f' hm
    simp only [Option.some.injEq, Prod.mk.injEq] at he
    obtain ⟨rfl, rfl⟩ := he
    exact ⟨hv, method_sound hm _ W⟩
  · split at he
    case h_2 => simp at he
    rename_i i b o hi
    split at he
    case h_2 => simp at he
    rename_i m hm
    split at he
    case h_2 => simp at he
    rename_i s f' pr hp hf
    split at he
    case h_2 => simp at he
    rename_i fields hu
    split at he
    case h_2 => simp at he
    rename_i fd hfd
    have hti : (typeInfo t).run P W = .ok i W := by simp [typeInfo, hi]
    split at he
    · simp at he
    · rename_i sz d hne hsz hd hderef
      have hplace : (fieldPlace ⟨η.blk b, o, none⟩ fd).run P W = .ok ((⟨η.blk b, o, none⟩ : Addr).add fd.offset) W := by
        simp only [fieldPlace, Sem.run_bind, run_sizeOf hsz W, Result.andThen_ok, Nat.succ_ne_zero, if_false, Sem.run_pure]
      have hfollow : (follow [s] t (.val (rV η (.pointer (some ⟨b, o, none⟩))))).run P W = .ok (fd.type, .var ((⟨η.blk b, o, none⟩ : Addr).add fd.offset)) W := by
        simp only [follow, Sem.run_bind, run_underlying hu, Result.andThen_ok, hfd, hderef, if_true, Place.get, Sem.run_pure, rV_psome, rA_mk, asAddr, hplace]
      have hstart : (method (k + 1) t (rV η (.pointer (some ⟨b, o, none⟩))) name).run P W = ((receiverAt fd.type (.var ((⟨η.blk b, o, none⟩ : Addr).add fd.offset)) pr (if m.path.isEmpty then some ((name.splitOn ".").getLastD name) else none)).run P W).andThen fun a w' => .ok (f', a) w' := by
        simp only [method, Sem.run_bind, hti, Result.andThen_ok, hm, hp, hfollow, hf, Sem.run_pure]
      have hnp : ∀ e, d ≠ .pointer e := fun e he' => hne e he'
      split at he
      · rename_i hpr
        simp only [Option.some.injEq, Prod.mk.injEq] at he
        obtain ⟨rfl, rfl⟩ := he
        refine ⟨hv.add, ?_⟩
        rw [hstart, hpr]
        simp only [receiverAt, Sem.run_bind, run_underlying hd, Result.andThen_ok]
        rw [rV_psome, rA_add]
        cases d <;> first | (exact absurd rfl (hnp _)) | rfl
      · rename_i hpr
        cases hl : evLoad P H fd.type (.pointer (some ((⟨b, o, none⟩ : Addr).add fd.offset))) with
        | none => rw [hl] at he; simp at he
        | some z =>
          rw [hl] at he
          simp only [Option.map_some, Option.some.injEq, Prod.mk.injEq] at he
          obtain ⟨rfl, rfl⟩ := he
          obtain ⟨hwz, hload⟩ := load_sound h hl
          rw [rV_psome, rA_add] at hload
          simp only [Instr.loadAt, Instr.sureAddr, Sem.run_bind, Sem.run_pure, Result.andThen_ok] at hload
          refine ⟨hwz, ?_⟩
          have hpr' : pr = false := by simpa using hpr
          rw [hstart, hpr']
          simp only [receiverAt, Sem.run_bind, run_underlying hd, Result.andThen_ok]
          cases d <;> first | (exact absurd rfl (hnp _)) | (simp only [Place.get, hload, Result.andThen_ok])
    · simp at he
def evInvoke (P : Program) (H : Tr) (recv : Value) (name : String) (args : List Value) : Option Out :=
  match recv with
  | .iface t v => match evRecv P H t v name with
    | some (f, u) => if isOurs P f then some (.enter f (u :: args)) else none
    | none => none
  | _ => none
theorem invoke_sound (h : Inv P n0 w0 H n η W) {ρ' : Operand → Value} {c : Call} {ro : Operand} {name : String} {recv : Value} {args : List Value} {out : Out} {ty : TypeId} (hc : c.callee = .invoke ro name) (hf : ρ' ro = rV η recv)
    (ha : c.args.map ρ' = (args.map (rV η)).toArray) (hw : Wf n recv) (hwa : WfL n args) (he : evInvoke P H recv name args = some out) :
    Runs P n0 w0 η n W (do let d ← resolve ρ' c ty; invoke d.target d.args) ⟨out, H, n⟩ := by
  unfold evInvoke at he
  split at he
  · rename_i t v
    split at he
    · rename_i f u hm
      split at he
      · rename_i ho
        simp only [Option.some.injEq] at he; subst he
        obtain ⟨hwu, hmeth⟩ := recv_sound (k := P.types.size + (Made.depth - 1)) h.toInq (Wf.iface.1 hw) hm
        refine ⟨η, W, .refl _ _, Nat.le_refl _, h, ?_, ?_⟩
        · intro z hz
          rcases List.mem_cons.1 hz with rfl | hz
          · exact hwu
          · exact hwa z hz
        · have hmeth' : (method (P.types.size + Made.depth) t (rV η v) name).run P W = .ok (f, rV η u) W := hmeth
          simp only [resolve, hc, hf, rV_iface, ha, pure_bind, invoke]
          have h0 : (#[Value.iface t (rV η v)] ++ (args.map (rV η)).toArray)[0]? = some (Value.iface t (rV η v)) := by simp
          have h1 : (#[Value.iface t (rV η v)] ++ (args.map (rV η)).toArray).extract 1 (#[Value.iface t (rV η v)] ++ (args.map (rV η)).toArray).size = (args.map (rV η)).toArray := by
            apply Array.ext'
            simp
            exact List.take_of_length_le (by simp)
          simp only [h0, h1, callMethod, program, Sem.run_bind, Sem.run, Result.andThen_ok, hmeth', callFunc_sound ho]
          congr 2
          apply Array.ext'
          simp
      · simp at he
    · simp at he
  · simp at he
end
end Go.Proofs.Ytoanbjnhoggpjaa.Ev
