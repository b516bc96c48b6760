/-
  A closed call evaluated: calls, comparisons with nil, the other operations that leave memory alone. A closed call evaluated: maps. A closed call evaluated: maps made and gone through, lengths, copy. Equality of long values by kinds of cells: what a type's flat row is, and that a value that fits it is equal to itself. A closed call evaluated: any operation.
-/
import Derived.Test.YtjcnpjidkimldaaGreatDoorAEvQ
import Derived.DeepKeys
import Derived.Laws.BytesString
namespace Go.Proofs.YtjcnpjidkimldaaGreatDoor.Ev
set_option linter.unusedSimpArgs false
set_option linter.unusedVariables false
set_option maxRecDepth 100000
open Go Go.RowKit

section
variable {P : Program} {n0 : Nat} {w0 : World} {H : Tr} {n : Nat} {η : Env} {W : World}

/-! ### Comparisons with nil -/
def evEq (P : Program) (t : TypeId) (x y : Value) : Option Bool :=
  match P.underlying t, x, y with
  | some (.pointer _), .pointer none, .pointer b => some b.isNone
  | some (.pointer _), .pointer (some _), .pointer none => some false
  | some (.slice _), .slice none _ _, .slice b _ _ => some b.isNone
  | some (.slice _), .slice (some _) _ _, .slice none _ _ => some false
  | some (.map _ _), .map none, .map b => some b.isNone
  | some (.map _ _), .map (some _), .map none => some false
  | some (.func _ _ _), .func _ _ _, .nilFunc => some false
  | some (.func _ _ _), .nilFunc, .func _ _ _ => some false
  | some (.interface _), .iface _ _, .nilIface => some false
  | some (.interface _), .nilIface, .iface _ _ => some false
  | _, _, _ => none
theorem eqIn_sound {t : TypeId} {x y : Value} {b : Bool} {d : Nat} (he : evEq P t x y = some b) (W : World) : (Op.equalIn (d + 1) t (rV η x) (rV η y)).run P W = .ok b W := by
  unfold evEq at he
  split at he <;> simp only [Option.some.injEq, reduceCtorEq] at he <;> subst he <;> rename_i hu <;>
    simp only [Op.equalIn, Sem.run_bind, run_underlying hu, Result.andThen_ok, rV_pnone, rV_psome, rV_snone, rV_ssome, rV_mnone, rV_msome, rV_nilFunc, rV_func, rV_iface, rV_nilIface, Sem.run_pure]
  case h_1 b => cases b <;> simp
  case h_3 b _ _ => cases b <;> simp
  case h_5 b => cases b <;> simp
def evNil (P : Program) (op : BinOp) (t : TypeId) (x y : Value) : Option Value :=
  match op with
  | .eql => (evEq P t x y).map .bool
  | .neq => (evEq P t x y).map fun b => .bool (!b)
  | _ => none
theorem nil_sound {op : BinOp} {t : TypeId} {x y v : Value} {xo yo : Operand} (he : evNil P op t x y = some v) (W : World) :
    Wf n v ∧ (do eqGuard op t xo yo (rV η x) (rV η y); binOp op t (rV η x) (rV η y) : Sem Value).run P W = .ok (rV η v) W := by
  have key : ∀ b, evEq P t x y = some b → (do eqGuard .eql t xo yo (rV η x) (rV η y); binOp .eql t (rV η x) (rV η y) : Sem Value).run P W = .ok (.bool b) W ∧
      (do eqGuard .neq t xo yo (rV η x) (rV η y); binOp .neq t (rV η x) (rV η y) : Sem Value).run P W = .ok (.bool (!b)) W := by
    intro b hb
    have hq : (Op.equal t (rV η x) (rV η y)).run P W = .ok b W := eqIn_sound (d := 9999) hb W
    unfold evEq at hb
    split at hb <;> simp only [Option.some.injEq, reduceCtorEq] at hb <;> rename_i hu <;>
      (try simp only [rV_pnone, rV_psome, rV_snone, rV_ssome, rV_mnone, rV_msome, rV_nilFunc, rV_func, rV_iface, rV_nilIface] at hq ⊢)
    case h_1 c => cases c <;> (try simp only [rV_pnone, rV_psome] at hq ⊢) <;> simp [eqGuard, binOp, hq]
    case h_3 c _ _ => cases c <;> (try simp only [rV_snone, rV_ssome] at hq ⊢) <;> simp [eqGuard, binOp, hq]
    case h_5 c => cases c <;> (try simp only [rV_mnone, rV_msome] at hq ⊢) <;> simp [eqGuard, binOp, hq]
    all_goals simp [eqGuard, binOp, hq]
  unfold evNil at he
  split at he
  · cases hb : evEq P t x y with
    | none => rw [hb] at he; simp at he
    | some b =>
      rw [hb] at he; simp at he; subst he
      exact ⟨Wf.bool _ _, by rw [(key b hb).1, rV_bool]⟩
  · cases hb : evEq P t x y with
    | none => rw [hb] at he; simp at he
    | some b =>
      rw [hb] at he; simp at he; subst he
      exact ⟨Wf.bool _ _, by rw [(key b hb).2, rV_bool]⟩
  · simp at he

/-! ### Calls -/
def isOurs (P : Program) (f : FuncId) : Bool :=
  match P.funcs[f]? with
  | some fn => fn.body.isSome && !(fn.name == "runtime.NumGoroutine")
  | none => false
theorem callFunc_sound {f : FuncId} {args : Array Value} (h : isOurs P f = true) (W : World) : (callFunc f args).run P W = .ok (.enter f args) W := by
  unfold isOurs at h
  split at h
  · rename_i fn hf
    simp only [Bool.and_eq_true, Bool.not_eq_true'] at h
    have hb : fn.body.isNone = false := by cases hx : fn.body <;> simp_all
    have h2 : ¬ fn.name = "runtime.NumGoroutine" := by simpa using h.2
    have h3 : ¬ fn.body = none := fun e => by simp [e] at hb
    simp [callFunc, program, Sem.run, hf, h2, h3]
  · simp at h
/-- What a call by a value enters. -/
def evCall (P : Program) (f : Value) (args : List Value) : Option Out :=
  match f with
  | .func (.func g) first captured => if isOurs P g then some (.enter g (first.toList ++ args ++ captured.toList)) else none
  | _ => none
theorem call_sound (h : Inv P n0 w0 H n η W) {ρ' : Operand → Value} {c : Call} {fo : Operand} {f : Value} {args : List Value} {out : Out} {ty : TypeId} (hc : c.callee = .value fo) (hf : ρ' fo = rV η f)
    (ha : c.args.map ρ' = (args.map (rV η)).toArray) (hw : Wf n f) (hwa : WfL n args) (he : evCall P f args = some out) :
    Runs P n0 w0 η n W (do let d ← resolve ρ' c ty; invoke d.target d.args) ⟨out, H, n⟩ := by
  unfold evCall at he
  split at he
  · rename_i g first captured
    split at he
    · rename_i hg
      simp only [Option.some.injEq] at he; subst he
      obtain ⟨h1, h2⟩ := hw.func
      refine ⟨η, W, .refl _ _, Nat.le_refl _, h, ?_, ?_⟩
      · intro v hv
        rcases List.mem_append.1 hv with hv | hv
        · rcases List.mem_append.1 hv with hv | hv
          · exact h1 v hv
          · exact hwa v hv
        · exact h2 v hv
      · simp only [resolve, hc, hf, rV_func, rFn, Deferred.ofValue, ha, Sem.run_bind, Sem.run_pure, Result.andThen_ok, invoke, callFunc_sound hg]
        congr 2
        apply Array.ext'
        simp
    · simp at he
  · simp at he

/-! ### Interfaces -/
def isIface : TypeDesc → Bool
  | .interface _ => true
  | _ => false
def evMakeI (P : Program) (t : TypeId) (x : Value) : Option Value :=
  match P.underlying t with
  | some d => if isIface d then none else some (.iface t x)
  | none => none
theorem makeI_sound {t : TypeId} {x v : Value} (hx : Wf n x) (he : evMakeI P t x = some v) (W : World) : Wf n v ∧ (Instr.makeInterface t (rV η x)).run P W = .ok (rV η v) W := by
  unfold evMakeI at he
  split at he
  · rename_i d hu
    split at he
    · simp at he
    · rename_i hd
      simp only [Option.some.injEq] at he; subst he
      refine ⟨Wf.iface.2 hx, ?_⟩
      simp only [Instr.makeInterface, Sem.run_bind, run_underlying hu, Result.andThen_ok]
      cases d <;> first | (simp [isIface] at hd; done) | simp
  · simp at he
def evAssert (P : Program) (x : Value) (t : TypeId) (ok : Bool) : Option Value :=
  match P.underlying t, x with
  | some d, .iface u v => if isIface d then none else if u = t then some (if ok then .tuple #[v, .bool true] else v) else none
  | _, _ => none
theorem assert_sound {x v : Value} {xt t : TypeId} {ok : Bool} (hx : Wf n x) (he : evAssert P x t ok = some v) (W : World) : Wf n v ∧ (Instr.typeAssert (rV η x) xt t ok).run P W = .ok (rV η v) W := by
  unfold evAssert at he
  split at he
  · rename_i d u w hu
    split at he
    · simp at he
    · rename_i hd
      split at he
      · rename_i hut
        simp only [Option.some.injEq] at he; subst he; subst hut
        have hw := Wf.iface.1 hx
        cases ok with
        | true =>
          refine ⟨WfL.tuple.2 (fun z hz => ?_), ?_⟩
          · simp at hz
            rcases hz with rfl | rfl
            · exact hw
            · exact Wf.bool _ _
          · simp only [Instr.typeAssert, Sem.run_bind, run_underlying hu, Result.andThen_ok, rV_iface]
            cases d <;> first | (simp [isIface] at hd; done) | simp
        | false =>
          refine ⟨hw, ?_⟩
          simp only [Instr.typeAssert, Sem.run_bind, run_underlying hu, Result.andThen_ok, rV_iface]
          cases d <;> first | (simp [isIface] at hd; done) | simp
      · simp at he
  · simp at he
/-- The function that a method of a dynamic type is, its receiver handed over as it is. -/
def evMethod (P : Program) (t : TypeId) (name : String) : Option FuncId :=
  match P.info? t, P.underlying t with
  | some i, some d => match i.methods.find? (·.name == name) with
    | some m => if m.path.toList.isEmpty then match m.func, d with
        | some (f, true), .pointer _ => some f
        | some (_, true), _ => none
        | some (_, false), .pointer _ => none
        | some (f, false), _ => some f
        | none, _ => none
      else none
    | none => none
  | _, _ => none
theorem method_sound {t : TypeId} {name : String} {f : FuncId} {k : Nat} (he : evMethod P t name = some f) (v : Value) (W : World) : (method (k + 1) t v name).run P W = .ok (f, v) W := by
  unfold evMethod at he
  split at he
  case h_2 => simp at he
  rename_i i d hi hu
  split at he
  case h_2 => simp at he
  rename_i m hm
  split at he
  case isFalse => simp at he
  rename_i hp
  have hp' : m.path.toList = [] := by simpa using hp
  have hti : (typeInfo t).run P W = .ok i W := by simp [typeInfo, hi]
  split at he
  · rename_i f' e hf
    simp only [Option.some.injEq] at he; subst he
    simp only [method, Sem.run_bind, hti, Result.andThen_ok, hm, hp', follow, Sem.run_pure, hf, receiverAt, run_underlying hu, Place.get]
  · simp at he
  · simp at he
  · rename_i f' hf hne
    simp only [Option.some.injEq] at he; subst he
    obtain ⟨dd, hdd⟩ : ∃ dd, P.underlying t = some dd := ⟨_, hu⟩
    have e := Option.some.inj (hdd.symm.trans hu)
    subst e
    simp only [method, Sem.run_bind, hti, Result.andThen_ok, hm, hp', follow, Sem.run_pure, hf, receiverAt, run_underlying hdd]
    cases dd <;> first | (exact absurd rfl (hne _)) | simp [Place.get]
  · simp at he
/-- The function and the receiver that a method of a dynamic type is; a method of a struct that the one pointed to has within it, too. -/
def evRecv (P : Program) (H : Tr) (t : TypeId) (v : Value) (name : String) : Option (FuncId × Value) :=
  match evMethod P t name with
  | some f => some (f, v)
  | none => match P.info? t, v with
    | some i, .pointer (some ⟨b, o, none⟩) => match i.methods.find? (·.name == name) with
      | some m => match m.path.toList, m.func with
        | [s], some (f, pr) => match P.underlying s.struct with
          | some (.struct fields) => match fields[s.index]? with
            | some fd => match sizeIn P fd.type, P.underlying fd.type, s.deref with
              | some (_ + 1), some (.pointer _), true => none
              | some (_ + 1), some _, true =>
                if pr then some (f, .pointer (some ((⟨b, o, none⟩ : Addr).add fd.offset)))
                else (evLoad P H fd.type (.pointer (some ((⟨b, o, none⟩ : Addr).add fd.offset)))).map fun u => (f, u)
              | _, _, _ => none
            | none => none
          | _ => none
        | _, _ => none
      | none => none
    | _, _ => none
theorem recv_sound (h : Inq P n0 H n η W) {t : TypeId} {v u : Value} {name : String} {f : FuncId} {k : Nat} (hv : Wf n v) (he : evRecv P H t v name = some (f, u)) : Wf n u ∧ (method (k + 1) t (rV η v) name).run P W = .ok (f, rV η u) W := by
  unfold evRecv at he
  split at he
  · rename_i f' hm
    simp only [Option.some.injEq, Prod.mk.injEq] at he
    obtain ⟨rfl, rfl⟩ := he
    exact ⟨hv, method_sound hm _ W⟩
  · split at he
    case h_2 => simp at he
    rename_i i b o hi
    split at he
    case h_2 => simp at he
    rename_i m hm
    split at he
    case h_2 => simp at he
    rename_i s f' pr hp hf
    split at he
    case h_2 => simp at he
    rename_i fields hu
    split at he
    case h_2 => simp at he
    rename_i fd hfd
    have hti : (typeInfo t).run P W = .ok i W := by simp [typeInfo, hi]
    split at he
    · simp at he
    · rename_i sz d hne hsz hd hderef
      have hplace : (fieldPlace ⟨η.blk b, o, none⟩ fd).run P W = .ok ((⟨η.blk b, o, none⟩ : Addr).add fd.offset) W := by
        simp only [fieldPlace, Sem.run_bind, run_sizeOf hsz W, Result.andThen_ok, Nat.succ_ne_zero, if_false, Sem.run_pure]
      have hfollow : (follow [s] t (.val (rV η (.pointer (some ⟨b, o, none⟩))))).run P W = .ok (fd.type, .var ((⟨η.blk b, o, none⟩ : Addr).add fd.offset)) W := by
        simp only [follow, Sem.run_bind, run_underlying hu, Result.andThen_ok, hfd, hderef, if_true, Place.get, Sem.run_pure, rV_psome, rA_mk, asAddr, hplace]
      have hstart : (method (k + 1) t (rV η (.pointer (some ⟨b, o, none⟩))) name).run P W = ((receiverAt fd.type (.var ((⟨η.blk b, o, none⟩ : Addr).add fd.offset)) pr (if m.path.isEmpty then some ((name.splitOn ".").getLastD name) else none)).run P W).andThen fun a w' => .ok (f', a) w' := by
        simp only [method, Sem.run_bind, hti, Result.andThen_ok, hm, hp, hfollow, hf, Sem.run_pure]
      have hnp : ∀ e, d ≠ .pointer e := fun e he' => hne e he'
      split at he
      · rename_i hpr
        simp only [Option.some.injEq, Prod.mk.injEq] at he
        obtain ⟨rfl, rfl⟩ := he
        refine ⟨hv.add, ?_⟩
        rw [hstart, hpr]
        simp only [receiverAt, Sem.run_bind, run_underlying hd, Result.andThen_ok]
        rw [rV_psome, rA_add]
        cases d <;> first | (exact absurd rfl (hnp _)) | rfl
      · rename_i hpr
        cases hl : evLoad P H fd.type (.pointer (some ((⟨b, o, none⟩ : Addr).add fd.offset))) with
        | none => rw [hl] at he; simp at he
        | some z =>
          rw [hl] at he
          simp only [Option.map_some, Option.some.injEq, Prod.mk.injEq] at he
          obtain ⟨rfl, rfl⟩ := he
          obtain ⟨hwz, hload⟩ := load_sound h hl
          rw [rV_psome, rA_add] at hload
          simp only [Instr.loadAt, Instr.sureAddr, Sem.run_bind, Sem.run_pure, Result.andThen_ok] at hload
          refine ⟨hwz, ?_⟩
          have hpr' : pr = false := by simpa using hpr
          rw [hstart, hpr']
          simp only [receiverAt, Sem.run_bind, run_underlying hd, Result.andThen_ok]
          cases d <;> first | (exact absurd rfl (hnp _)) | (simp only [Place.get, hload, Result.andThen_ok])
    · simp at he
def evInvoke (P : Program) (H : Tr) (recv : Value) (name : String) (args : List Value) : Option Out :=
  match recv with
  | .iface t v => match evRecv P H t v name with
    | some (f, u) => if isOurs P f then some (.enter f (u :: args)) else none
    | none => none
  | _ => none
theorem invoke_sound (h : Inv P n0 w0 H n η W) {ρ' : Operand → Value} {c : Call} {ro : Operand} {name : String} {recv : Value} {args : List Value} {out : Out} {ty : TypeId} (hc : c.callee = .invoke ro name) (hf : ρ' ro = rV η recv)
    (ha : c.args.map ρ' = (args.map (rV η)).toArray) (hw : Wf n recv) (hwa : WfL n args) (he : evInvoke P H recv name args = some out) :
    Runs P n0 w0 η n W (do let d ← resolve ρ' c ty; invoke d.target d.args) ⟨out, H, n⟩ := by
  unfold evInvoke at he
  split at he
  · rename_i t v
    split at he
    · rename_i f u hm
      split at he
      · rename_i ho
        simp only [Option.some.injEq] at he; subst he
        obtain ⟨hwu, hmeth⟩ := recv_sound (k := P.types.size + (Made.depth - 1)) h.toInq (Wf.iface.1 hw) hm
        refine ⟨η, W, .refl _ _, Nat.le_refl _, h, ?_, ?_⟩
        · intro z hz
          rcases List.mem_cons.1 hz with rfl | hz
          · exact hwu
          · exact hwa z hz
        · have hmeth' : (method (P.types.size + Made.depth) t (rV η v) name).run P W = .ok (f, rV η u) W := hmeth
          simp only [resolve, hc, hf, rV_iface, ha, pure_bind, invoke]
          have h0 : (#[Value.iface t (rV η v)] ++ (args.map (rV η)).toArray)[0]? = some (Value.iface t (rV η v)) := by simp
          have h1 : (#[Value.iface t (rV η v)] ++ (args.map (rV η)).toArray).extract 1 (#[Value.iface t (rV η v)] ++ (args.map (rV η)).toArray).size = (args.map (rV η)).toArray := by
            apply Array.ext'
            simp
            exact List.take_of_length_le (by simp)
          simp only [h0, h1, callMethod, program, Sem.run_bind, Sem.run, Result.andThen_ok, hmeth', callFunc_sound ho]
          congr 2
          apply Array.ext'
          simp
      · simp at he
    · simp at he
  · simp at he
end
end Go.Proofs.YtjcnpjidkimldaaGreatDoor.Ev

namespace Go.Proofs.YtjcnpjidkimldaaGreatDoor.Ev
set_option linter.unusedSimpArgs false
set_option linter.unusedVariables false
set_option maxRecDepth 100000
open Go Go.RowKit

section
variable {P : Program} {n0 : Nat} {w0 : World} {H : Tr} {n : Nat} {η : Env} {W : World}

def rE (η : Env) (e : MapEntry) : MapEntry := { e with key := rV η e.key, val := rV η e.val }
def WfE (n : Nat) (e : MapEntry) : Prop := Wf n e.key ∧ Wf n e.val
theorem rO_map (η : Env) (es : Array MapEntry) (c : Nat) : rO η (.map es c) = .map (es.map (rE η)) c := rfl
theorem WfO.map_iff {es : Array MapEntry} {c : Nat} : WfO n (.map es c) ↔ ∀ e ∈ es.toList, WfE n e := by
  constructor
  · intro h e he
    constructor <;> intro η η' ha <;>
    · have := h η η' ha
      simp only [rO_map, Obj.map.injEq, and_true] at this
      have h2 := congrArg Array.toList this
      simp only [Array.toList_map] at h2
      have h3 := List.map_inj_left.1 h2 e he
      simp only [rE, MapEntry.mk.injEq] at h3
      first | exact h3.1 | exact h3.2.1
  · intro h η η' ha
    simp only [rO_map, Obj.map.injEq, and_true]
    refine Array.map_congr_left fun e he => ?_
    obtain ⟨h1, h2⟩ := h e (by simpa using he)
    simp only [rE, h1 η η' ha, h2 η η' ha]
theorem Inq.obj (h : Inq P n0 H n η W) {b : Nat} {o : Obj} (hb : H.get b = .obj o) : WfO n o ∧ notCells (rO η o) ∧ W.heap[η.blk b]? = some (rO η o) := by
  have hlt := h.lt_of_live (b := b) (by rw [hb]; trivial)
  have := h.at' b hlt
  rw [hb] at this
  exact this
theorem run_getObj {r : Nat} {o : Obj} (h : W.heap[r]? = some o) (hn : notCells o) : (getObj r).run P W = .ok o W := by
  cases o <;> first | exact hn.elim | simp [getObj, Sem.run, h]
theorem run_setObj {r : Nat} {o o' : Obj} (h : W.heap[r]? = some o) (hn : notCells o) : (setObj r o').run P W = .ok () { W with heap := W.heap.setIfInBounds r o' } := by
  cases o <;> first | exact hn.elim | simp [setObj, Sem.run, h]
theorem Inv.setObj (h : Inv P n0 w0 H n η W) (hm : n < most) {b : Nat} {o o' : Obj} (hb : H.get b = .obj o) (h0 : n0 ≤ b) (hw : WfO n o') (hn : notCells (rO η o')) :
    Inv P n0 w0 (Tr.set depth H b (.obj o')) n η { W with heap := W.heap.setIfInBounds (η.blk b) (rO η o') } := by
  have hlt := h.lt_of_live (b := b) (by rw [hb]; trivial)
  refine h.turn hm hlt h0 (by rw [hb]; trivial) _ ⟨rfl, rfl, rfl, by simp⟩ (fun k hk => ?_) ⟨hw, hn, ?_⟩
  · simp [Array.getElem?_setIfInBounds_ne (Ne.symm hk)]
  · simp [h.lt b hlt]

/-- Keys that are numbers, texts, truths. -/
def plainKey (P : Program) (t : TypeId) (k : Value) : Option TypeDesc :=
  match P.underlying t, k with
  | some (.int x), .int y _ => if x = y then some (.int x) else none
  | some .string, .string s => if (s == s) = true then some .string else none
  | some .bool, .bool _ => some .bool
  | _, _ => none
theorem plainKey_check {t : TypeId} {k : Value} {d : TypeDesc} (h : plainKey P t k = some d) (m : Nat) (e : Bool) (W : World) : (Instr.checkKey e (m + 1) t k).run P W = .ok () W := by
  unfold plainKey at h
  split at h
  · rename_i x y i hu
    simp only [Instr.checkKey, Sem.run_bind, run_underlying hu, Result.andThen_ok, Sem.run_pure]
  · rename_i s hu
    simp only [Instr.checkKey, Sem.run_bind, run_underlying hu, Result.andThen_ok, Sem.run_pure]
  · rename_i s hu
    simp only [Instr.checkKey, Sem.run_bind, run_underlying hu, Result.andThen_ok, Sem.run_pure]
  · simp at h
theorem plainKey_spec {t : TypeId} {k : Value} {d : TypeDesc} (h : plainKey P t k = some d) :
    P.underlying t = some d ∧ (∀ η, rV η k = k) ∧ (∀ e W, (Instr.checkKey e 10000 t k).run P W = .ok () W) ∧ Instr.sameNow d k k = some true ∧ Instr.sameBits 10000 k k = true := by
  have hc := fun e W => plainKey_check h 9999 e W
  unfold plainKey at h
  split at h
  · rename_i x y i hu
    split at h
    · rename_i hxy
      simp only [Option.some.injEq] at h; subst h; subst hxy
      exact ⟨hu, fun η => by simp, hc, by simp [Instr.sameNow], by simp [Instr.sameBits]⟩
    · simp at h
  · rename_i s hu
    split at h
    · rename_i hs
      simp only [Option.some.injEq] at h; subst h
      exact ⟨hu, fun η => by simp, hc, by simp [Instr.sameNow, hs], by simp [Instr.sameBits, hs]⟩
    · simp at h
  · rename_i s hu
    simp only [Option.some.injEq] at h; subst h
    exact ⟨hu, fun η => by simp, hc, by simp [Instr.sameNow], by simp [Instr.sameBits]⟩
  · simp at h
theorem sameNow_r (η : Env) (d : TypeDesc) (k v : Value) : Instr.sameNow d k (rV η v) = Instr.sameNow d k v := by
  cases v with
  | pointer a => cases a <;> cases d <;> cases k <;> simp [Instr.sameNow]
  | slice a => cases a <;> cases d <;> cases k <;> simp [Instr.sameNow]
  | map r => cases r <;> cases d <;> cases k <;> simp [Instr.sameNow]
  | int => simp only [rV_int]
  | bool => simp only [rV_bool]
  | string => simp only [rV_string]
  | _ => cases d <;> cases k <;> simp [Instr.sameNow]
theorem findNow_r (η : Env) (d : TypeDesc) (k : Value) : ∀ (es : List MapEntry) (i : Nat), Instr.findNow d k (es.map (rE η)) i = (Instr.findNow d k es i).map (·.map fun p => (p.1, rV η p.2))
  | [], i => rfl
  | e :: es, i => by
    simp only [List.map_cons, Instr.findNow, rE, sameNow_r]
    cases Instr.sameNow d k e.key with
    | none => rfl
    | some b =>
      cases b with
      | false => exact findNow_r η d k es (i + 1)
      | true => rfl
theorem findKey_sound {t : TypeId} {k : Value} {d : TypeDesc} {es : List MapEntry} {r : Option (Nat × Value)} (h : P.underlying t = some d) (hf : Instr.findNow d k es 0 = some r) (W : World) :
    (Instr.findKey t k (es.map (rE η))).run P W = .ok (r.map fun p => (p.1, rV η p.2)) W := by
  simp only [Instr.findKey, Sem.run_bind, run_underlying h, Result.andThen_ok, findNow_r, hf, Option.map_some, Sem.run_pure]
theorem findNow_mem {d : TypeDesc} {k : Value} : ∀ {es : List MapEntry} {i j : Nat} {v : Value}, Instr.findNow d k es i = some (some (j, v)) → i ≤ j ∧ ∃ e, es[j - i]? = some e ∧ e.val = v ∧ Instr.sameNow d k e.key = some true
  | [], i, j, v, h => by simp [Instr.findNow] at h
  | e :: es, i, j, v, h => by
    simp only [Instr.findNow] at h
    cases hs : Instr.sameNow d k e.key with
    | none => rw [hs] at h; simp at h
    | some b =>
      rw [hs] at h
      cases b with
      | true => simp at h; obtain ⟨rfl, rfl⟩ := h; exact ⟨Nat.le_refl _, e, by simp, rfl, hs⟩
      | false =>
        obtain ⟨h1, e', h2, h3⟩ := findNow_mem (i := i + 1) h
        refine ⟨by omega, e', ?_, h3⟩
        rw [show j - i = (j - (i + 1)) + 1 by omega, List.getElem?_cons_succ]; exact h2

def evLookup (P : Program) (n0 : Nat) (H : Tr) (t : TypeId) (x k : Value) (ok : Bool) : Option Value :=
  match P.underlying t with
  | some (.map kt et) => match plainKey P kt k with
    | some d => match (match x with
        | .map none => some #[]
        | .map (some r) => match H.get r with
          | .obj (.map es _) => some es
          | _ => none
        | _ => none : Option (Array MapEntry)) with
      | some es => match Instr.findNow d k es.toList 0 with
        | some (some (_, v)) => some (if ok then .tuple #[v, .bool true] else v)
        | some none => match zeroIn P n0 et with
          | some z => some (if ok then .tuple #[z, .bool false] else z)
          | none => none
        | none => none
      | none => none
    | none => none
  | _ => none
theorem lookup_sound (h : Inq P n0 H n η W) {t : TypeId} {x k v : Value} {ok : Bool} (he : evLookup P n0 H t x k ok = some v) :
    Wf n v ∧ (Instr.lookup t (rV η x) (rV η k) ok).run P W = .ok (rV η v) W := by
  unfold evLookup at he
  split at he
  case h_2 => simp at he
  rename_i kt et hu
  split at he
  case h_2 => simp at he
  rename_i d hk
  obtain ⟨k1, k2, k3, -, -⟩ := plainKey_spec hk
  split at he
  case h_2 => simp at he
  rename_i es hes
  have hx : (∀ e ∈ es.toList, WfE n e) ∧ ((rV η x = .map none ∧ es = #[]) ∨ ∃ r c, rV η x = .map (some r) ∧ (getObj r).run P W = .ok (.map (es.map (rE η)) c) W) := by
    split at hes
    · simp only [Option.some.injEq] at hes; subst hes
      exact ⟨by simp, .inl ⟨by simp, rfl⟩⟩
    · rename_i r
      split at hes
      · rename_i es' c hb
        simp only [Option.some.injEq] at hes; subst hes
        obtain ⟨o1, o2, o3⟩ := h.obj hb
        exact ⟨WfO.map_iff.1 o1, .inr ⟨η.blk r, c, by simp, by rw [← rO_map]; exact run_getObj o3 o2⟩⟩
      · simp at hes
    · simp at hes
  obtain ⟨hw, hx⟩ := hx
  have key : ∀ r, Instr.findNow d k es.toList 0 = some r →
      (Instr.lookup t (rV η x) (rV η k) ok).run P W = (match r with
        | some (_, v) => .ok (if ok then .tuple #[rV η v, .bool true] else rV η v) W
        | none => ((zeroValue et).run P W).andThen fun z W => .ok (if ok then .tuple #[z, .bool false] else z) W) := by
    intro r hf
    have hfk := fun W => findKey_sound (P := P) (η := η) k1 hf W
    unfold Instr.lookup
    rcases hx with ⟨e1, rfl⟩ | ⟨r', c, e1, e2⟩
    · have hfk0 := hfk
      simp only [List.map_nil, Array.toList_empty] at hfk0
      rw [e1]
      simp only [Sem.run_bind, run_underlying hu, Result.andThen_ok, Sem.run_pure, k2, k3, Array.toList_empty, hfk0]
      cases r with
      | none => simp only [Option.map_none, Sem.run_bind, Sem.run_pure]; cases (zeroValue et).run P W <;> simp
      | some p => simp
    · rw [e1]
      simp only [Sem.run_bind, run_underlying hu, Result.andThen_ok, Sem.run_pure, e2, k2, k3, Array.toList_map, hfk]
      cases r with
      | none => simp only [Option.map_none, Sem.run_bind, Sem.run_pure]; cases (zeroValue et).run P W <;> simp
      | some p => simp
  split at he
  · rename_i j u hf
    simp only [Option.some.injEq] at he; subst he
    obtain ⟨-, e, e1, e2, -⟩ := findNow_mem hf
    have hwu : Wf n u := by rw [← e2]; exact (hw e (List.mem_of_getElem? e1)).2
    rw [key _ hf]
    cases ok with
    | true => exact ⟨WfL.tuple.2 (fun v hv => by
        simp at hv
        rcases hv with rfl | rfl
        · exact hwu
        · exact Wf.bool _ _), by simp⟩
    | false => exact ⟨hwu, by simp⟩
  · rename_i hf
    split at he
    · rename_i z hz
      obtain ⟨z1, z2, z3⟩ := zeroIn_spec h hz
      simp only [Option.some.injEq] at he; subst he
      rw [key _ hf]
      cases ok with
      | true => exact ⟨WfL.tuple.2 (fun v hv => by
        simp at hv
        rcases hv with rfl | rfl
        · exact z3 n (Nat.le_refl n)
        · exact Wf.bool _ _), by simp [z1, z2]⟩
      | false => exact ⟨z3 n (Nat.le_refl n), by simp [z1, z2]⟩
    · simp at he
  · simp at he

theorem sameNow_fixed {d : TypeDesc} {k e : Value} {b : Bool} (h : Instr.sameNow d k e = some b) (η : Env) : rV η e = e := by
  unfold Instr.sameNow at h
  split at h
  · simp
  · simp
  · simp
  · simp at h

def evMapUpdate (P : Program) (n0 : Nat) (H : Tr) (n : Nat) (t : TypeId) (m k v : Value) : Option Res :=
  match P.underlying t, m with
  | some (.map kt _), .map (some r) => match plainKey P kt k, H.get r with
    | some d, .obj (.map es c) =>
      if n0 ≤ r ∧ n < most then
        match Instr.findNow d k es.toList 0 with
        | some (some (i, _)) => match es.toList[i]? with
          | some e => if Instr.sameBits 10000 e.key k then some ⟨.skip, Tr.set depth H r (.obj (.map (es.modify i fun e => { e with key := k, val := v }) c)), n⟩ else none
          | none => none
        | some none => some ⟨.skip, Tr.set depth H r (.obj (.map (es.push { key := k, val := v, born := c }) (c + 1))), n⟩
        | none => none
      else none
    | _, _ => none
  | _, _ => none
theorem modify_wf {es : Array MapEntry} {i : Nat} {f : MapEntry → MapEntry} (h : ∀ e ∈ es.toList, WfE n e) (hf : ∀ e, WfE n e → WfE n (f e)) : ∀ e ∈ (es.modify i f).toList, WfE n e := by
  intro e he
  rw [Array.toList_modify] at he
  obtain ⟨j, hj⟩ := List.getElem?_of_mem he
  rw [List.getElem?_modify] at hj
  cases hx : es.toList[j]? with
  | none => rw [hx] at hj; simp at hj
  | some u =>
    rw [hx] at hj; simp at hj
    have hu := h u (List.mem_of_getElem? hx)
    split at hj
    · rw [← hj]; exact hf u hu
    · rw [← hj]; exact hu
theorem modify_map {es : Array MapEntry} {i : Nat} {f g : MapEntry → MapEntry} (hf : ∀ e, rE η (f e) = g (rE η e)) : (es.modify i f).map (rE η) = (es.map (rE η)).modify i g := by
  apply Array.ext'
  rw [Array.toList_map, Array.toList_modify, Array.toList_modify, Array.toList_map]
  apply List.ext_getElem?
  intro j
  simp only [List.getElem?_map, List.getElem?_modify]
  cases es.toList[j]? with
  | none => simp
  | some u =>
    by_cases hij : i = j
    · simp [hij, hf]
    · simp [hij]
theorem mapUpdate_sound (h : Inv P n0 w0 H n η W) {t : TypeId} {m k v : Value} {r : Res} (hv : Wf n v) (hk : Wf n k) (he : evMapUpdate P n0 H n t m k v = some r) :
    Runs P n0 w0 η n W (do Instr.mapUpdate t (rV η m) (rV η k) (rV η v); pure .skip) r := by
  unfold evMapUpdate at he
  split at he
  case h_2 => simp at he
  rename_i kt et b hu
  split at he
  case h_2 => simp at he
  rename_i d es c hpk hb
  obtain ⟨k1, k2, k3, -, -⟩ := plainKey_spec hpk
  obtain ⟨o1, o2, o3⟩ := h.obj hb
  have hw := WfO.map_iff.1 o1
  have hget := run_getObj (P := P) o3 o2
  rw [rO_map] at hget o3
  split at he
  case isFalse => simp at he
  rename_i hc
  obtain ⟨hc0, hcm⟩ := hc
  split at he
  · rename_i i u hf
    split at he
    case h_2 => simp at he
    rename_i e hei
    split at he
    case isFalse => simp at he
    rename_i hsb
    simp only [Option.some.injEq] at he; subst he
    have hfk := findKey_sound (P := P) (η := η) k1 hf W
    obtain ⟨-, e', e1, e2, e3⟩ := findNow_mem hf
    rw [Nat.sub_zero, hei] at e1
    simp only [Option.some.injEq] at e1; subst e1
    have hkey : ((es.map (rE η))[i]?).map (·.key) = some e.key := by
      rw [Array.getElem?_map, ← Array.getElem?_toList, hei]
      simp [rE, sameNow_fixed e3 η]
    have hset := run_setObj (P := P) (o' := rO η (.map (es.modify i fun e => { e with key := k, val := v }) c)) o3 trivial
    refine ⟨η, _, .refl _ _, Nat.le_refl _, h.setObj hcm hb hc0 (WfO.map_iff.2 (modify_wf hw fun _ _ => ⟨hk, hv⟩)) trivial, ?_⟩
    simp only [Instr.mapUpdate, Sem.run_bind, run_underlying hu, Result.andThen_ok, rV_msome, hget, k2, k3, Array.toList_map, hfk, Option.map_some, hkey, Option.getD_some, Instr.keyThatStays, hsb, if_true, Sem.run_pure]
    rw [rO_map, modify_map (g := fun e => { e with key := k, val := rV η v }) (fun e => by simp [rE, k2])] at hset ⊢
    simp only [hset, Result.andThen_ok]
  · rename_i hf
    simp only [Option.some.injEq] at he; subst he
    have hfk := findKey_sound (P := P) (η := η) k1 hf W
    have hset := run_setObj (P := P) (o' := rO η (.map (es.push { key := k, val := v, born := c }) (c + 1))) o3 trivial
    refine ⟨η, _, .refl _ _, Nat.le_refl _, h.setObj hcm hb hc0 (WfO.map_iff.2 (fun e he => ?_)) trivial, ?_⟩
    · simp at he
      rcases he with he | rfl
      · exact hw e (by simpa using he)
      · exact ⟨hk, hv⟩
    simp only [Instr.mapUpdate, Sem.run_bind, run_underlying hu, Result.andThen_ok, rV_msome, hget, k2, k3, Array.toList_map, hfk, Option.map_none, Sem.run_pure]
    rw [rO_map, Array.map_push] at hset ⊢
    simp only [rE, k2] at hset ⊢
    simp only [hset, Result.andThen_ok]
  · simp at he

def evDelete (P : Program) (n0 : Nat) (H : Tr) (n : Nat) (ts : List TypeId) (args : List Value) : Option Res :=
  match ts, args with
  | t :: _, [.map (some r), k] => match P.underlying t, H.get r with
    | some (.map kt _), .obj (.map es c) => match plainKey P kt k with
      | some d => if n0 ≤ r ∧ n < most then
          match Instr.findNow d k es.toList 0 with
          | some (some (i, _)) => some ⟨.val (.tuple #[]), Tr.set depth H r (.obj (.map (es.eraseIdxIfInBounds i) c)), n⟩
          | some none => some ⟨.val (.tuple #[]), Tr.set depth H r (.obj (.map es c)), n⟩
          | none => none
        else none
      | none => none
    | _, _ => none
  | _, _ => none
theorem delete_sound (h : Inv P n0 w0 H n η W) {ts : List TypeId} {ty : TypeId} {args : List Value} {r : Res} (he : evDelete P n0 H n ts args = some r) :
    Runs P n0 w0 η n W (do pure (.value (← Builtin.delete_ ts.toArray ty (args.map (rV η)).toArray))) r := by
  unfold evDelete at he
  split at he
  case h_2 => simp at he
  rename_i t ts' b k
  split at he
  case h_2 => simp at he
  rename_i kt et es c hu hb
  split at he
  case h_2 => simp at he
  rename_i d hpk
  obtain ⟨k1, k2, k3, -, -⟩ := plainKey_spec hpk
  obtain ⟨o1, o2, o3⟩ := h.obj hb
  have hw := WfO.map_iff.1 o1
  have hget := run_getObj (P := P) o3 o2
  rw [rO_map] at hget o3
  split at he
  case isFalse => simp at he
  rename_i hc
  obtain ⟨hc0, hcm⟩ := hc
  split at he
  · rename_i i u hf
    simp only [Option.some.injEq] at he; subst he
    have hfk := findKey_sound (P := P) (η := η) k1 hf W
    have hset := run_setObj (P := P) (o' := rO η (.map (es.eraseIdxIfInBounds i) c)) o3 trivial
    refine ⟨η, _, .refl _ _, Nat.le_refl _, h.setObj hcm hb hc0 (WfO.map_iff.2 (fun e he => hw e ?_)) trivial, WfL.tuple.2 (by intro v hv; simp at hv), ?_⟩
    · rw [Array.toList_eraseIdxIfInBounds] at he; exact List.mem_of_mem_eraseIdx he
    have hmap : (es.eraseIdxIfInBounds i).map (rE η) = (es.map (rE η)).eraseIdxIfInBounds i := by
      apply Array.ext'
      apply List.ext_getElem?
      intro j
      simp only [Array.toList_map, Array.toList_eraseIdxIfInBounds, List.getElem?_map, List.getElem?_eraseIdx]
      split <;> rfl
    rw [rO_map, hmap] at hset ⊢
    simp only [Builtin.delete_, List.getElem?_toArray, List.getElem?_cons_zero, List.getElem?_cons_succ, List.map_cons, List.map_nil, Sem.run_bind, run_underlying hu, Result.andThen_ok, rV_msome, hget, k2, k3, Array.toList_map, hfk, Option.map_some, hset, Sem.run_pure, rV_tuple]
    simp
  · rename_i hf
    simp only [Option.some.injEq] at he; subst he
    have hfk := findKey_sound (P := P) (η := η) k1 hf W
    have hset := run_setObj (P := P) (o' := rO η (.map es c)) o3 trivial
    refine ⟨η, _, .refl _ _, Nat.le_refl _, h.setObj hcm hb hc0 o1 trivial, WfL.tuple.2 (by intro v hv; simp at hv), ?_⟩
    rw [rO_map] at hset ⊢
    simp only [Builtin.delete_, List.getElem?_toArray, List.getElem?_cons_zero, List.getElem?_cons_succ, List.map_cons, List.map_nil, Sem.run_bind, run_underlying hu, Result.andThen_ok, rV_msome, hget, k2, k3, Array.toList_map, hfk, Option.map_none, hset, Sem.run_pure, rV_tuple]
    simp
  · simp at he
end
end Go.Proofs.YtjcnpjidkimldaaGreatDoor.Ev

namespace Go.Proofs.YtjcnpjidkimldaaGreatDoor.Ev
set_option linter.unusedSimpArgs false
set_option linter.unusedVariables false
set_option maxRecDepth 100000
open Go Go.RowKit

section
variable {P : Program} {n0 : Nat} {w0 : World} {H : Tr} {n : Nat} {η : Env} {W : World}

def newObjC (H : Tr) (n : Nat) (o : Obj) (v : Value) : Option Res :=
  if n < most then some ⟨.val v, Tr.set depth H n (.obj o), n + 1⟩ else none
theorem newObj_sound (h : Inv P n0 w0 H n η W) {o : Obj} {v : Value} {r : Res} (hw : WfO n o) (hn : notCells (rO η o)) (he : newObjC H n o v = some r) (hv : Wf (n + 1) v) (s : Sem Next)
    (hs : ∀ η' : Env, η'.blk n = W.heap.size → Agree n η η' → s.run P W = .ok (.value (rV η' v)) (W.alloc (rO η o))) : Runs P n0 w0 η n W s r := by
  unfold newObjC at he
  split at he
  · rename_i hm
    simp only [Option.some.injEq] at he; subst he
    have ha := η.put_agree n W.heap.size 0
    exact ⟨_, _, ha, Nat.le_succ n, h.allocObj hm hw hn, hv, hs _ (Env.put_blk _ _ _ _) ha⟩
  · simp at he
theorem run_newObj (o : Obj) (w : World) : (newObj o).run P w = .ok w.heap.size (w.alloc o) := rfl
theorem rO_nil (η : Env) (c : Nat) : rO η (.map #[] c) = .map #[] c := by simp [rO]
def evMakeMap (P : Program) (H : Tr) (n : Nat) (t : TypeId) (r : Option Value) : Option Res :=
  match r with
  | none => newObjC H n (.map #[] 0) (.map (some n))
  | some (.int _ _) => match P.underlying t with
    | some (.map _ _) => newObjC H n (.map #[] 0) (.map (some n))
    | _ => none
  | _ => none
theorem makeMap_sound (h : Inv P n0 w0 H n η W) {t : TypeId} {x : Option Value} {r : Res} (he : evMakeMap P H n t x = some r) :
    Runs P n0 w0 η n W (do pure (.value (← Instr.makeMap t (x.map (rV η))))) r := by
  unfold evMakeMap at he
  split at he
  · refine newObj_sound h (WfO.map_iff.2 (by simp)) trivial he (Wf.map (Nat.lt_succ_self n)) _ fun η' hb ha => ?_
    rw [rV_msome, hb, rO_nil]
    simp only [Instr.makeMap, Option.map_none, Sem.run_bind, run_newObj, Result.andThen_ok, Sem.run_pure]
  · split at he
    · rename_i kt et hu
      refine newObj_sound h (WfO.map_iff.2 (by simp)) trivial he (Wf.map (Nat.lt_succ_self n)) _ fun η' hb ha => ?_
      rw [rV_msome, hb, rO_nil]
      simp only [Instr.makeMap, Option.map_some, rV_int, Sem.run_bind, run_underlying hu, Result.andThen_ok, asInt, asIntOf, run_newObj, Sem.run_pure]
    · simp at he
  · simp at he
def evRange (P : Program) (H : Tr) (n : Nat) (t : TypeId) (x : Value) : Option Res :=
  match P.underlying t, x with
  | some .string, .string s => newObjC H n (.stringIter s 0) (.pointer (some ⟨n, 0, none⟩))
  | some (.map _ _), .map none => newObjC H n (.mapIter none 0 #[] 0) (.pointer (some ⟨n, 0, none⟩))
  | some (.map _ _), .map (some m) => match H.get m with
    | .obj (.map _ c) => newObjC H n (.mapIter (some m) c #[] c) (.pointer (some ⟨n, 0, none⟩))
    | _ => none
  | _, _ => none
theorem range_sound (h : Inv P n0 w0 H n η W) {t : TypeId} {x : Value} {r : Res} (he : evRange P H n t x = some r) :
    Runs P n0 w0 η n W (do pure (.value (← Instr.range t (rV η x)))) r := by
  unfold evRange at he
  split at he
  · rename_i s hu
    refine newObj_sound h (o := .stringIter s 0) (fun _ _ _ => rfl) trivial he (Wf.ptr (Nat.lt_succ_self n)) _ fun η' hb ha => ?_
    rw [rV_psome, rA_mk, hb]
    simp only [Instr.range, rV_string, Sem.run_bind, run_underlying hu, Result.andThen_ok, Sem.run_pure]
    rfl
  · rename_i kt et hu
    refine newObj_sound h (o := .mapIter none 0 #[] 0) (fun _ _ _ => rfl) trivial he (Wf.ptr (Nat.lt_succ_self n)) _ fun η' hb ha => ?_
    rw [rV_psome, rA_mk, hb]
    simp only [Instr.range, rV_mnone, Sem.run_bind, run_underlying hu, Result.andThen_ok, Sem.run_pure]
    rfl
  · rename_i kt et m hu
    split at he
    · rename_i es c hb'
      obtain ⟨o1, o2, o3⟩ := h.obj hb'
      have hget := run_getObj (P := P) o3 o2
      rw [rO_map] at hget
      have hlt := h.lt_of_live (b := m) (by rw [hb']; trivial)
      refine newObj_sound h (o := .mapIter (some m) c #[] c) (fun η η' ha => by simp [rO, (ha m hlt).1]) trivial he (Wf.ptr (Nat.lt_succ_self n)) _ fun η' hb ha => ?_
      rw [rV_psome, rA_mk, hb]
      simp only [Instr.range, rV_msome, Sem.run_bind, run_underlying hu, Result.andThen_ok, Sem.run_pure, hget]
      rfl
    · simp at he
  · simp at he

/-- The entries that may come next. -/
def cands (es : Array MapEntry) (since : Nat) (seen : Array Nat) : Array (Option MapEntry) :=
  let left := es.filter fun e => !seen.contains e.born
  let old := left.filter (·.born < since)
  let new := left.filter (·.born ≥ since)
  (if old.isEmpty then #[none] else #[]) ++ (old ++ new).map some
theorem filter_r (η : Env) (es : Array MapEntry) (p : Nat → Bool) : (es.map (rE η)).filter (fun e => p e.born) = (es.filter fun e => p e.born).map (rE η) := by
  rw [Array.filter_map]; rfl
theorem cands_r (η : Env) (es : Array MapEntry) (since : Nat) (seen : Array Nat) : cands (es.map (rE η)) since seen = (cands es since seen).map (·.map (rE η)) := by
  have h1 := filter_r η es (fun b => !seen.contains b)
  have h2 := filter_r η (es.filter fun e => !seen.contains e.born) (fun b => decide (b < since))
  have h3 := filter_r η (es.filter fun e => !seen.contains e.born) (fun b => decide (b ≥ since))
  simp only [cands, h1, h2, h3]
  by_cases he : (Array.filter (fun e => decide (e.born < since)) (Array.filter (fun e => !seen.contains e.born) es)).isEmpty = true
  · have : ((Array.filter (fun e => decide (e.born < since)) (Array.filter (fun e => !seen.contains e.born) es)).map (rE η)).isEmpty = true := by simpa using he
    rw [if_pos he, if_pos this]
    simp [Array.map_append, Function.comp_def]
  · have : ¬ ((Array.filter (fun e => decide (e.born < since)) (Array.filter (fun e => !seen.contains e.born) es)).map (rE η)).isEmpty = true := by simpa using he
    rw [if_neg he, if_neg this]
    simp [Array.map_append, Function.comp_def]
def evNext (H : Tr) (n : Nat) (n0 : Nat) (it : Value) (isS : Bool) : Option (List Res) :=
  match it with
  | .pointer (some ⟨r, 0, none⟩) => match H.get r, isS with
    | .obj (.stringIter s pos), true =>
      if n0 ≤ r ∧ n < most then
        if pos < s.size then
          some [⟨.val (.tuple #[.bool true, goInt pos, .int .i32 (Utf8.decode s pos).1]), Tr.set depth H r (.obj (.stringIter s (pos + (Utf8.decode s pos).2))), n⟩]
        else some [⟨.val (.tuple #[.bool false]), H, n⟩]
      else none
    | .obj (.mapIter none _ _ _), false => some [⟨.val (.tuple #[.bool false]), H, n⟩]
    | .obj (.mapIter (some m) since seen last), false => match H.get m with
      | .obj (.map es clock) =>
        if n0 ≤ r ∧ n < most ∧ (!seen.isEmpty && !es.isEmpty && es.all (·.born ≥ last)) = false ∧ (cands es since seen).size ≠ 0 then
          some ((cands es since seen).toList.map fun
            | some e => ⟨.val (.tuple #[.bool true, e.key, e.val]), Tr.set depth H r (.obj (.mapIter (some m) since (seen.push e.born) clock)), n⟩
            | none => ⟨.val (.tuple #[.bool false]), H, n⟩)
        else none
      | _ => none
    | _, _ => none
  | _ => none
theorem mem_cands {es : Array MapEntry} {since : Nat} {seen : Array Nat} {e : MapEntry} (h : some e ∈ (cands es since seen).toList) : e ∈ es.toList := by
  simp only [cands, Array.toList_append, List.mem_append, Array.toList_map, List.mem_map, Array.toList_filter, List.mem_filter, Option.some.injEq] at h
  rcases h with h | ⟨a, h, rfl⟩
  · split at h <;> simp at h
  · rcases h with h | h
    · exact h.1.1
    · exact h.1.1
theorem next_sound (h : Inv P n0 w0 H n η W) {it : Value} {isS : Bool} {ty : TypeId} {rs : List Res} (he : evNext H n n0 it isS = some rs) :
    ∃ r ∈ rs, Runs P n0 w0 η n W (do pure (.value (← Instr.next (rV η it) isS ty))) r := by
  unfold evNext at he
  split at he
  case h_2 => simp at he
  rename_i r
  split at he
  · rename_i s pos hb
    obtain ⟨o1, o2, o3⟩ := h.obj hb
    have hget := run_getObj (P := P) o3 o2
    have hO : rO η (.stringIter s pos) = .stringIter s pos := rfl
    rw [hO] at hget o3
    split at he
    case isFalse => simp at he
    rename_i hc
    split at he
    · rename_i hpos
      simp only [Option.some.injEq] at he; subst he
      refine ⟨_, List.mem_singleton_self _, η, _, .refl _ _, Nat.le_refl _, h.setObj hc.2 hb hc.1 (o' := .stringIter s (pos + (Utf8.decode s pos).2)) (fun _ _ _ => rfl) trivial, ?_, ?_⟩
      · exact WfL.tuple.2 (fun v hv => by
          simp at hv
          rcases hv with rfl | rfl | rfl
          · exact Wf.bool _ _
          · exact Wf.int _ _ _
          · exact Wf.int _ _ _)
      · have hset := run_setObj (P := P) (o' := .stringIter s (pos + (Utf8.decode s pos).2)) o3 trivial
        simp only [Instr.next, rV_psome, rA_mk, Sem.run_bind, hget, Result.andThen_ok, hpos, if_true, hset, Sem.run_pure, rV_tuple]
        simp [goInt, rO]
    · rename_i hpos
      simp only [Option.some.injEq] at he; subst he
      refine ⟨_, List.mem_singleton_self _, Runs.same h (WfL.tuple.2 fun v hv => by simp at hv; subst hv; exact Wf.bool _ _) ?_⟩
      simp only [Instr.next, rV_psome, rA_mk, Sem.run_bind, hget, Result.andThen_ok, hpos, if_false, Sem.run_pure, rV_tuple]
      simp
  · rename_i a b c hb
    simp only [Option.some.injEq] at he; subst he
    obtain ⟨o1, o2, o3⟩ := h.obj hb
    have hget := run_getObj (P := P) o3 o2
    refine ⟨_, List.mem_singleton_self _, Runs.same h (WfL.tuple.2 fun v hv => by simp at hv; subst hv; exact Wf.bool _ _) ?_⟩
    simp only [rO] at hget
    simp only [Instr.next, rV_psome, rA_mk, Sem.run_bind, hget, Result.andThen_ok, Sem.run_pure, rV_tuple]
    simp
  · rename_i m since seen last hb
    split at he
    case h_2 => simp at he
    rename_i es clock hm
    split at he
    case isFalse => simp at he
    rename_i hc
    obtain ⟨c1, c2, c3, c4⟩ := hc
    simp only [Option.some.injEq] at he; subst he
    obtain ⟨o1, o2, o3⟩ := h.obj hb
    have hget := run_getObj (P := P) o3 o2
    have hO : rO η (.mapIter (some m) since seen last) = .mapIter (some (η.blk m)) since seen last := rfl
    rw [hO] at hget o3
    obtain ⟨p1, p2, p3⟩ := h.obj hm
    have hgm := run_getObj (P := P) p3 p2
    rw [rO_map] at hgm
    have hwm := WfO.map_iff.1 p1
    have hltm := h.lt_of_live (b := m) (by rw [hm]; trivial)
    have hall : (es.map (rE η)).all (fun e => decide (e.born ≥ last)) = es.all (fun e => decide (e.born ≥ last)) := by
      rw [Array.all_map]; rfl
    have hcond : (!seen.isEmpty && !(es.map (rE η)).isEmpty && (es.map (rE η)).all (fun e => decide (e.born ≥ last))) = false := by
      rw [hall]
      have : (es.map (rE η)).isEmpty = es.isEmpty := by
        show decide ((es.map (rE η)).size = 0) = decide (es.size = 0)
        rw [Array.size_map]
      rw [this]; exact c3
    have hcr := cands_r η es since seen
    have hsize : (cands (es.map (rE η)) since seen).size = (cands es since seen).size := by rw [hcr]; simp
    -- the draw
    have hch : ∃ k W1, k < (cands es since seen).size ∧ (W1 = W ∨ W1 = W.drew) ∧ (choose (.mapNext (cands (es.map (rE η)) since seen).size)).run P W = .ok k W1 := by
      rw [hsize]
      by_cases h1 : (cands es since seen).size ≤ 1
      · exact ⟨0, W, by omega, .inl rfl, by simp [choose, Sem.run, Question.forced, h1]⟩
      · refine ⟨W.tape W.drawn (.mapNext (cands es since seen).size) % (cands es since seen).size, W.drew, Nat.mod_lt _ (by omega), .inr rfl, ?_⟩
        simp [choose, Sem.run, Question.forced, h1, Question.cut]
    obtain ⟨k, W1, hk, hW1, hch⟩ := hch
    have h1 : Inv P n0 w0 H n η W1 := by
      rcases hW1 with rfl | rfl
      · exact h
      · exact h.drew
    have o3' : W1.heap[η.blk r]? = some (.mapIter (some (η.blk m)) since seen last) := by
      rcases hW1 with rfl | rfl <;> exact o3
    have hrun : ∀ {β : Type} (K : Value → Sem β), (Instr.next (rV η (.pointer (some ⟨r, 0, none⟩))) false ty >>= K).run P W =
        ((match (cands (es.map (rE η)) since seen)[k]? with
          | some (some e) => do
            setObj (η.blk r) (.mapIter (some (η.blk m)) since (seen.push e.born) clock)
            pure (.tuple #[.bool true, e.key, e.val])
          | some none => pure (.tuple #[.bool false])
          | none => stuck "Next: no such candidate" : Sem Value) >>= K).run P W1 := by
      intro β K
      unfold cands at hch ⊢
      dsimp only at hch ⊢
      simp only [Instr.next, rV_psome, rA_mk, Sem.run_bind, hget, Result.andThen_ok, hgm, hcond, Bool.false_eq_true, if_false, hch]
      rfl
    have hkc : (cands es since seen)[k]? = some ((cands es since seen)[k]) := Array.getElem?_eq_getElem hk
    have hkr : (cands (es.map (rE η)) since seen)[k]? = some (((cands es since seen)[k]).map (rE η)) := by rw [hcr, Array.getElem?_map, hkc]; rfl
    have hmem : (cands es since seen)[k] ∈ (cands es since seen).toList := by simp
    cases hcand : (cands es since seen)[k] with
    | none =>
      rw [hcand] at hkr hmem
      refine ⟨_, List.mem_map.2 ⟨none, hmem, rfl⟩, η, W1, .refl _ _, Nat.le_refl _, h1, WfL.tuple.2 (fun v hv => by simp at hv; subst hv; exact Wf.bool _ _), ?_⟩
      rw [hrun, hkr]
      simp
    | some e =>
      rw [hcand] at hkr hmem
      have hwe := hwm e (mem_cands hmem)
      have hset := run_setObj (P := P) (o' := .mapIter (some (η.blk m)) since (seen.push e.born) clock) o3' trivial
      refine ⟨_, List.mem_map.2 ⟨some e, hmem, rfl⟩, η, _, .refl _ _, Nat.le_refl _, h1.setObj c2 hb c1 (o' := .mapIter (some m) since (seen.push e.born) clock) (fun η η' ha => by simp [rO, (ha m hltm).1]) trivial, ?_, ?_⟩
      · exact WfL.tuple.2 (fun v hv => by
          simp at hv
          rcases hv with rfl | rfl | rfl
          · exact Wf.bool _ _
          · exact hwe.1
          · exact hwe.2)
      · rw [hrun, hkr]
        simp only [Option.map_some, Sem.run_bind, rE, hset, Result.andThen_ok, Sem.run_pure, rV_tuple]
        simp [rO]
  · simp at he

def evEntry (H : Tr) (it : Value) : Option Value :=
  match it with
  | .pointer (some ⟨r, 0, none⟩) => match H.get r with
    | .obj (.mapIter (some m) _ seen stepped) => match seen.back?, H.get m with
      | some stamp, .obj (.map es clock) => if clock = stepped then match es.find? (·.born == stamp) with
          | some e => some (.tuple #[e.key, e.val])
          | none => none
        else none
      | _, _ => none
    | _ => none
  | _ => none
theorem entry_sound (h : Inq P n0 H n η W) {it v : Value} (he : evEntry H it = some v) : Wf n v ∧ (Instr.entry (rV η it)).run P W = .ok (rV η v) W := by
  unfold evEntry at he
  split at he
  case h_2 => simp at he
  rename_i r
  split at he
  case h_2 => simp at he
  rename_i m since seen stepped hb
  split at he
  case h_2 => simp at he
  rename_i stamp es clock hs hm
  split at he
  case isFalse => simp at he
  rename_i hc
  split at he
  case h_2 => simp at he
  rename_i e hf
  simp only [Option.some.injEq] at he; subst he
  obtain ⟨o1, o2, o3⟩ := h.obj hb
  have hget := run_getObj (P := P) o3 o2
  have hO : rO η (.mapIter (some m) since seen stepped) = .mapIter (some (η.blk m)) since seen stepped := rfl
  rw [hO] at hget
  obtain ⟨p1, p2, p3⟩ := h.obj hm
  have hgm := run_getObj (P := P) p3 p2
  rw [rO_map] at hgm
  have hwe := WfO.map_iff.1 p1 e (by simpa using Array.mem_of_find?_eq_some hf)
  have hfr : (es.map (rE η)).find? (·.born == stamp) = some (rE η e) := by
    rw [Array.find?_map]
    show (es.find? (fun e => e.born == stamp)).map (rE η) = _
    rw [hf]; rfl
  refine ⟨WfL.tuple.2 (fun u hu => by
    simp at hu
    rcases hu with rfl | rfl
    · exact hwe.1
    · exact hwe.2), ?_⟩
  have hne : (clock != stepped) = false := by simp [hc]
  simp only [Instr.entry, rV_psome, rA_mk, Sem.run_bind, hget, Result.andThen_ok, hs, hgm, hne, Bool.false_eq_true, if_false, hfr, Sem.run_pure, rV_tuple]
  simp [rE]

/-! ### Lengths -/
def evLenB (P : Program) (H : Tr) (ts : List TypeId) (args : List Value) : Option Value :=
  match ts, args with
  | t :: _, [x] => match P.underlying t, x with
    | some (.slice _), .slice _ k _ => some (goInt k)
    | some (.map _ _), .map (some r) => match H.get r with
      | .obj (.map es _) => some (goInt es.size)
      | _ => none
    | _, _ => none
  | _, _ => none
theorem lenB_sound (h : Inq P n0 H n η W) {ts : List TypeId} {ty : TypeId} {args : List Value} {v : Value} (he : evLenB P H ts args = some v) :
    Wf n v ∧ (Builtin.len_ ts.toArray ty (args.map (rV η)).toArray).run P W = .ok (rV η v) W := by
  unfold evLenB at he
  split at he
  case h_2 => simp at he
  rename_i t ts' x
  split at he
  · rename_i e a k c hu
    simp only [Option.some.injEq] at he; subst he
    refine ⟨Wf.int _ _ _, ?_⟩
    cases a <;> simp [Builtin.len_, run_underlying hu, goInt]
  · rename_i kt et r hu
    split at he
    · rename_i es c hb
      simp only [Option.some.injEq] at he; subst he
      obtain ⟨o1, o2, o3⟩ := h.obj hb
      have hget := run_getObj (P := P) o3 o2
      rw [rO_map] at hget
      refine ⟨Wf.int _ _ _, ?_⟩
      simp [Builtin.len_, run_underlying hu, goInt, hget]
    · simp at he
  · simp at he
def evCapB (P : Program) (ts : List TypeId) (args : List Value) : Option Value :=
  match ts, args with
  | t :: _, [.slice _ _ c] => match P.underlying t with
    | some (.slice _) => if c < 2 ^ 70 then some (goInt c) else none
    | _ => none
  | _, _ => none
theorem capB_sound {ts : List TypeId} {ty : TypeId} {args : List Value} {v : Value} (he : evCapB P ts args = some v) (W : World) :
    Wf n v ∧ (Builtin.cap_ ts.toArray ty (args.map (rV η)).toArray).run P W = .ok (rV η v) W := by
  unfold evCapB at he
  split at he
  case h_2 => simp at he
  rename_i t ts' a k c
  split at he
  · rename_i e hu
    split at he
    · rename_i hc
      simp only [Option.some.injEq] at he; subst he
      refine ⟨Wf.int _ _ _, ?_⟩
      cases a <;> simp [Builtin.cap_, run_underlying hu, goInt, rCap_lt hc]
    · simp at he
  · simp at he

/-! ### copy -/
def evCopy (P : Program) (n0 : Nat) (H : Tr) (n : Nat) (ts : List TypeId) (args : List Value) : Option Res :=
  match ts, args with
  | t :: _, [.slice base dLen dc, x] => match P.underlying t, evLen x with
    | some (.slice elem), some k => match sizeIn P elem with
      | some sz => match evFirst H sz (Nat.min k dLen) x, base with
        | some l, some ⟨b, o, none⟩ => match H.get b with
          | .cells cs e op => if decide (o + l.length ≤ cs.length) && decide (n0 ≤ b) && decide (n < most) && l.all isOne then
              some ⟨.val (goInt (Nat.min k dLen)), Tr.set depth H b (.cells (putCells cs o l) e op), n⟩ else none
          | _ => none
        | some l, none => some ⟨.val (goInt (Nat.min k dLen)), H, n⟩
        | _, _ => none
      | none => none
    | _, _ => none
  | _, _ => none
theorem copy_sound (h : Inv P n0 w0 H n η W) {ts : List TypeId} {ty : TypeId} {args : List Value} {r : Res} (he : evCopy P n0 H n ts args = some r) :
    Runs P n0 w0 η n W (do pure (.value (← Builtin.copy_ ts.toArray ty (args.map (rV η)).toArray))) r := by
  unfold evCopy at he
  split at he
  case h_2 => simp at he
  rename_i t ts' base dLen dc x
  split at he
  case h_2 => simp at he
  rename_i elem k hu hlen
  have hl := fun w => len_sound (P := P) (η := η) hlen w
  split at he
  case h_2 => simp at he
  rename_i sz hs
  split at he
  · rename_i l b o hf
    obtain ⟨wl, fl⟩ := first_sound h hf
    split at he
    case h_2 => simp at he
    rename_i cs e op hb
    split at he
    case isFalse => simp at he
    rename_i hc
    simp only [Bool.and_eq_true, decide_eq_true_eq, List.all_eq_true] at hc
    obtain ⟨⟨⟨c1, c2⟩, c3⟩, c4⟩ := hc
    simp only [Option.some.injEq] at he; subst he
    have hone : ∀ v ∈ l.map (rV η), v.oneCell' = true := fun v hv => by
      simp only [List.mem_map] at hv
      obtain ⟨u, hu', rfl⟩ := hv
      exact isOne_spec (c4 u hu') η
    have hth := h.there (k := (l.map (rV η)).length) hb (by rw [List.length_map]; exact c1)
    have hst := run_storeCells_cells (P := P) (η.blk b) o (l.map (rV η)) 0 W (fun j hj => by simpa using (hth j hj).1) (fun j hj => by simpa using (hth j hj).2) hone
    rw [Nat.add_zero] at hst
    refine ⟨η, _, .refl _ _, Nat.le_refl _, h.put c3 hb c2 c1 wl, Wf.int _ _ _, ?_⟩
    simp only [Builtin.copy_, List.getElem?_toArray, List.getElem?_cons_zero, List.getElem?_cons_succ, List.map_cons, List.map_nil, rV_ssome, rA_mk, Sem.run_bind, run_underlying hu, Result.andThen_ok, hl,
      run_sizeOf hs, fl, hst, Sem.run_pure, rV_int, goInt]
  · rename_i l hf
    obtain ⟨wl, fl⟩ := first_sound h hf
    simp only [Option.some.injEq] at he; subst he
    refine Runs.same h (Wf.int _ _ _) ?_
    simp only [Builtin.copy_, List.getElem?_toArray, List.getElem?_cons_zero, List.getElem?_cons_succ, List.map_cons, List.map_nil, rV_snone, Sem.run_bind, run_underlying hu, Result.andThen_ok, hl,
      run_sizeOf hs, fl, Sem.run_pure, rV_int, goInt]
  · simp at he
end
end Go.Proofs.YtjcnpjidkimldaaGreatDoor.Ev

namespace Go.Proofs.YtjcnpjidkimldaaGreatDoor.Ev
set_option linter.unusedSimpArgs false
set_option linter.unusedVariables false
set_option maxRecDepth 100000
open Go Go.RowKit

inductive Kd where
  | b
  | i (q : IntKind)
  | s
def kdOk : Kd → Value → Bool
  | .b, .bool _ => true
  | .i q, .int q' n => decide (q' = q) && (Lit.int q n).wf
  | .s, .string s => decide (s.size ≤ maxLen)
  | _, _ => false
def litOf : Value → Lit
  | .bool b => .bool b
  | .int q n => .int q n
  | .string s => .string s.data.toList
  | _ => .bool false
def fits : List Kd → List Value → Bool
  | [], [] => true
  | k :: ks, v :: vs => kdOk k v && fits ks vs
  | _, _ => false
def repK : Nat → List Kd → List Kd
  | 0, _ => []
  | n + 1, l => l ++ repK n l
def fieldsK (P : Program) (k : TypeId → Option (List Kd)) : List Field → Nat → Option (List Kd)
  | [], _ => some []
  | f :: r, o => match k f.type with
    | none => none
    | some l => match Nat.beq f.offset o && Nat.beq (P.cellsOf f.type) l.length with
      | false => none
      | true => match fieldsK P k r (o + l.length) with
        | some m => some (l ++ m)
        | none => none
def kindsK (P : Program) : Nat → TypeId → Option (List Kd)
  | 0, _ => none
  | d + 1, t => match P.underlying t with
    | some .bool => some [.b]
    | some (.int q) => some [.i q]
    | some .string => some [.s]
    | some (.array n e) => match kindsK P d e with
      | none => none
      | some l => match Nat.beq (P.cellsOf t) (n * l.length) && Nat.beq (P.cellsOf e) l.length with
        | true => some (repK n l)
        | false => none
    | some (.struct fs) => match fs.all (·.name != "_") with
      | false => none
      | true => match fieldsK P (kindsK P d) fs.toList 0 with
        | none => none
        | some l => match Nat.beq (P.cellsOf t) l.length with
          | true => some l
          | false => none
    | _ => none
theorem fits_len : ∀ {ks : List Kd} {cs : List Value}, fits ks cs = true → cs.length = ks.length
  | [], [], _ => rfl
  | [], _ :: _, h => by simp [fits] at h
  | _ :: _, [], h => by simp [fits] at h
  | k :: ks, v :: vs, h => by
    simp only [fits, Bool.and_eq_true] at h
    simp [fits_len h.2]
theorem fits_app : ∀ {ks ls : List Kd} {cs : List Value}, fits (ks ++ ls) cs = true → fits ks (cs.take ks.length) = true ∧ fits ls (cs.drop ks.length) = true
  | [], ls, cs, h => by simpa [fits] using h
  | k :: ks, ls, [], h => by simp [fits] at h
  | k :: ks, ls, v :: vs, h => by
    simp only [List.cons_append, fits, Bool.and_eq_true] at h
    obtain ⟨h1, h2⟩ := fits_app h.2
    simp [fits, h.1, h1, h2]
theorem repK_len (n : Nat) (l : List Kd) : (repK n l).length = n * l.length := by
  induction n with
  | zero => simp [repK]
  | succ n ih => simp [repK, ih, Nat.succ_mul, Nat.add_comm]
theorem mapM_some' {α β : Type} {f : α → Option β} {g : α → β} : ∀ {l : List α}, (∀ x ∈ l, f x = some (g x)) → l.mapM f = some (l.map g)
  | [], _ => rfl
  | a :: l, h => by
    rw [List.mapM_cons, h a List.mem_cons_self, mapM_some' (fun x hx => h x (List.mem_cons_of_mem _ hx))]
    rfl
theorem rep_lits {P : Program} {d : Nat} {e : TypeId} {l : List Kd} (ih : ∀ cs, fits l cs = true → P.keyLits d e cs = some (cs.map litOf)) :
    ∀ (n : Nat) (cs : List Value), fits (repK n l) cs = true →
      (∀ i, i < n → P.keyLits d e ((cs.drop (i * l.length)).take l.length) = some (((cs.drop (i * l.length)).take l.length).map litOf)) ∧
      ((List.range n).map fun i => ((cs.drop (i * l.length)).take l.length).map litOf).flatten = cs.map litOf
  | 0, cs, h => by
    cases cs with
    | nil => exact ⟨fun i hi => absurd hi (Nat.not_lt_zero _), rfl⟩
    | cons v vs => simp [repK, fits] at h
  | n + 1, cs, h => by
    obtain ⟨h1, h2⟩ := fits_app (ks := l) (ls := repK n l) h
    obtain ⟨g1, g2⟩ := rep_lits ih n _ h2
    have hd : ∀ i, (cs.drop l.length).drop (i * l.length) = cs.drop ((i + 1) * l.length) := fun i => by
      rw [List.drop_drop]; congr 1; rw [Nat.succ_mul]; omega
    refine ⟨fun i hi => ?_, ?_⟩
    · cases i with
      | zero => simpa using ih _ h1
      | succ i =>
        have := g1 i (by omega)
        rwa [hd] at this
    · rw [List.range_succ_eq_map, List.map_cons, List.flatten_cons, List.map_map]
      have e1 : ((fun i => ((cs.drop (i * l.length)).take l.length).map litOf) ∘ Nat.succ) = fun i => (((cs.drop l.length).drop (i * l.length)).take l.length).map litOf := by
        funext i
        show ((cs.drop ((i + 1) * l.length)).take l.length).map litOf = _
        rw [hd]
      rw [e1, g2]
      simp only [Nat.zero_mul, List.drop_zero]
      rw [← List.map_append, List.take_append_drop]
theorem fields_lits {P : Program} {d : Nat} (ih : ∀ t l cs, kindsK P d t = some l → fits l cs = true → P.keyLits d t cs = some (cs.map litOf)) :
    ∀ (fs : List Field) (o : Nat) (l : List Kd) (cs : List Value), fieldsK P (kindsK P d) fs o = some l → fits l (cs.drop o) = true →
      ∃ ls, fs.mapM (fun f => P.keyLits d f.type ((cs.drop f.offset).take (P.cellsOf f.type))) = some ls ∧ ls.flatten = (cs.drop o).map litOf
  | [], o, l, cs, h, hf => by
    simp only [fieldsK, Option.some.injEq] at h; subst h
    have : cs.drop o = [] := by
      cases hc : cs.drop o with
      | nil => rfl
      | cons v vs => rw [hc] at hf; simp [fits] at hf
    exact ⟨[], rfl, by rw [this]; rfl⟩
  | f :: r, o, l, cs, h, hf => by
    unfold fieldsK at h
    split at h
    · cases h
    · rename_i l1 hl1
      split at h
      · cases h
      · rename_i hb
        simp only [Bool.and_eq_true] at hb
        have ho := Nat.eq_of_beq_eq_true hb.1
        have hc := Nat.eq_of_beq_eq_true hb.2
        split at h
        · rename_i m hm
          simp only [Option.some.injEq] at h; subst h
          obtain ⟨h1, h2⟩ := fits_app hf
          rw [List.drop_drop] at h2
          obtain ⟨ls, g1, g2⟩ := fields_lits ih r _ m cs hm h2
          refine ⟨((cs.drop o).take l1.length).map litOf :: ls, ?_, ?_⟩
          · rw [List.mapM_cons, ho, hc, ih _ _ _ hl1 h1, g1]; rfl
          · rw [List.flatten_cons, g2, ← List.drop_drop, ← List.map_append, List.take_append_drop]
        · cases h
theorem kinds_lits {P : Program} : ∀ (d : Nat) (t : TypeId) (l : List Kd) (cs : List Value), kindsK P d t = some l → fits l cs = true → P.keyLits d t cs = some (cs.map litOf)
  | 0, t, l, cs, h, hf => by simp [kindsK] at h
  | d + 1, t, l, cs, h, hf => by
    have ih := kinds_lits (P := P) d
    have hlen := fits_len hf
    unfold kindsK at h
    unfold Program.keyLits
    split at h
    · rename_i hu
      simp only [Option.some.injEq] at h; subst h
      match cs, hf with
      | [.bool b], hf => simp [hu, litOf]
    · rename_i q hu
      simp only [Option.some.injEq] at h; subst h
      match cs, hf with
      | [.int q' n], hf =>
        simp only [fits, kdOk, Bool.and_eq_true, decide_eq_true_eq, Bool.and_true] at hf
        obtain ⟨rfl, hw⟩ := hf
        simp [hu, litOf, hw]
    · rename_i hu
      simp only [Option.some.injEq] at h; subst h
      match cs, hf with
      | [.string s], hf =>
        simp only [fits, kdOk, Bool.and_eq_true, decide_eq_true_eq, Bool.and_true] at hf
        simp [hu, litOf, hf]
    · rename_i n e hu
      split at h
      · cases h
      · rename_i l1 hl1
        split at h
        · rename_i hb
          simp only [Bool.and_eq_true] at hb
          have hc := Nat.eq_of_beq_eq_true hb.1
          have he := Nat.eq_of_beq_eq_true hb.2
          simp only [Option.some.injEq] at h; subst h
          obtain ⟨g1, g2⟩ := rep_lits (P := P) (d := d) (e := e) (l := l1) (fun cs => ih e l1 cs hl1) n cs hf
          rw [repK_len] at hlen
          simp only [hu]
          rw [if_pos (hlen.trans hc.symm), he, mapM_some' (g := fun i => ((cs.drop (i * l1.length)).take l1.length).map litOf) (fun i hi => g1 i (List.mem_range.1 hi))]
          exact congrArg some g2
        · cases h
    · rename_i fs hu
      split at h
      · cases h
      · rename_i hn
        split at h
        · cases h
        · rename_i l1 hl1
          split at h
          · rename_i hb
            have hc := Nat.eq_of_beq_eq_true hb
            simp only [Option.some.injEq] at h; subst h
            obtain ⟨ls, g1, g2⟩ := fields_lits ih fs.toList 0 l1 cs hl1 (by simpa using hf)
            simp only [hu]
            rw [if_pos ⟨hlen.trans hc.symm, hn⟩, g1]
            simpa using g2
          · cases h
    · cases h
/-! ### Equality -/
def zEq : Int → Int → Bool
  | .ofNat a, .ofNat b => Nat.beq a b
  | .negSucc a, .negSucc b => Nat.beq a b
  | _, _ => false
theorem zEq_iff (a b : Int) : zEq a b = true ↔ a = b := by
  cases a <;> cases b <;> simp [zEq] <;> omega
def litEq : Value → Value → Bool
  | .bool a, .bool b => a == b
  | .int _ a, .int _ b => zEq a b
  | .string s, .string t => decide (s.data.toList = t.data.toList)
  | _, _ => false
def eqK : List Value → List Value → Bool
  | [], [] => true
  | x :: xs, y :: ys => litEq x y && eqK xs ys
  | _, _ => false
theorem litEq_iff {k : Kd} {x y : Value} (hx : kdOk k x = true) (hy : kdOk k y = true) : litEq x y = true ↔ litOf x = litOf y := by
  cases k <;> cases x <;> simp [kdOk] at hx <;> cases y <;> simp [kdOk] at hy <;> simp [litEq, litOf, zEq_iff]
  intro _
  exact hx.1.trans hy.1.symm
theorem eqK_iff : ∀ {ks : List Kd} {xs ys : List Value}, fits ks xs = true → fits ks ys = true → (eqK xs ys = true ↔ xs.map litOf = ys.map litOf)
  | [], [], [], _, _ => by simp [eqK]
  | [], [], _ :: _, _, h => by simp [fits] at h
  | [], _ :: _, _, h, _ => by simp [fits] at h
  | _ :: _, [], _, h, _ => by simp [fits] at h
  | _ :: _, _ :: _, [], _, h => by simp [fits] at h
  | k :: ks, x :: xs, y :: ys, h1, h2 => by
    simp only [fits, Bool.and_eq_true] at h1 h2
    simp [eqK, litEq_iff h1.1 h2.1, eqK_iff h1.2 h2.2]
theorem kdOk_rV {k : Kd} {x : Value} (h : kdOk k x = true) (η : Env) : rV η x = x := by
  cases k <;> cases x <;> simp [kdOk] at h <;> simp
theorem fits_rV : ∀ {ks : List Kd} {xs : List Value}, fits ks xs = true → ∀ η, xs.map (rV η) = xs
  | [], [], _, _ => rfl
  | [], _ :: _, h, _ => by simp [fits] at h
  | _ :: _, [], h, _ => by simp [fits] at h
  | k :: ks, x :: xs, h, η => by
    simp only [fits, Bool.and_eq_true] at h
    rw [List.map_cons, kdOk_rV h.1 η, fits_rV h.2 η]
def evAggEq (P : Program) (op : BinOp) (t : TypeId) (xs ys : List Value) : Option Value :=
  match (Value.agg ⟨xs⟩).formed P t && (Value.agg ⟨ys⟩).formed P t && P.keyTypeAt 12 t && !P.eqGuardType P.depth t with
  | false => none
  | true => match kindsK P 12 t with
    | none => none
    | some ks => match fits ks xs && fits ks ys with
      | false => none
      | true => match op with
        | .eql => some (.bool (eqK xs ys))
        | .neq => some (.bool (!eqK xs ys))
        | _ => none
theorem aggEq_sound {P : Program} {n : Nat} {η : Env} {op : BinOp} {t : TypeId} {xs ys : List Value} {v : Value} {xo yo : Operand} (he : evAggEq P op t xs ys = some v) (W : World) :
    Wf n v ∧ (do eqGuard op t xo yo (rV η (.agg ⟨xs⟩)) (rV η (.agg ⟨ys⟩)); binOp op t (rV η (.agg ⟨xs⟩)) (rV η (.agg ⟨ys⟩)) : Sem Value).run P W = .ok (rV η v) W := by
  unfold evAggEq at he
  split at he
  · cases he
  · rename_i hb
    simp only [Bool.and_eq_true, Bool.not_eq_true'] at hb
    obtain ⟨⟨⟨fx, fy⟩, hk⟩, hg⟩ := hb
    split at he
    · cases he
    · rename_i ks hks
      split at he
      · cases he
      · rename_i hf
        simp only [Bool.and_eq_true] at hf
        have ex : rV η (.agg ⟨xs⟩) = .agg ⟨xs⟩ := by rw [rV_agg]; simp [fits_rV hf.1 η]
        have ey : rV η (.agg ⟨ys⟩) = .agg ⟨ys⟩ := by rw [rV_agg]; simp [fits_rV hf.2 η]
        rw [ex, ey]
        obtain ⟨r, h1, h2⟩ := run_equalIn_deep (P := P) 9988 12 t hk W 12 12 (.agg ⟨xs⟩) (.agg ⟨ys⟩) _ _ fx fy (kinds_lits 12 t ks xs hks hf.1) (kinds_lits 12 t ks ys hks hf.2)
        have hr : r = eqK xs ys := by rw [Bool.eq_iff_iff, h2, eqK_iff hf.1 hf.2]
        subst hr
        have hq : (Op.equal t (.agg ⟨xs⟩) (.agg ⟨ys⟩)).run P W = .ok (eqK xs ys) W := h1
        split at he
        · simp only [Option.some.injEq] at he; subst he
          refine ⟨Wf.bool _ _, ?_⟩
          rw [rV_bool]
          simp [eqGuard, binOp, hq, hg]
        · simp only [Option.some.injEq] at he; subst he
          refine ⟨Wf.bool _ _, ?_⟩
          rw [rV_bool]
          simp [eqGuard, binOp, hq, hg]
        · cases he
end Go.Proofs.YtjcnpjidkimldaaGreatDoor.Ev

namespace Go.Proofs.YtjcnpjidkimldaaGreatDoor.Ev
set_option linter.unusedSimpArgs false
set_option linter.unusedVariables false
set_option maxRecDepth 100000
open Go Go.RowKit

section
variable {P : Program} {n0 : Nat} {w0 : World} {H : Tr} {n : Nat} {η : Env} {W : World}

/-! ### Texts and bytes -/
def bytesOf : List Value → Option (List Int)
  | [] => some []
  | .int .u8 k :: l => match bytesOf l with
    | some r => some (k :: r)
    | none => none
  | _ => none
theorem bytesOf_spec : ∀ {l : List Value} {r : List Int}, bytesOf l = some r → l = r.map (Value.int .u8)
  | [], r, h => by simp [bytesOf] at h; subst h; rfl
  | v :: l, r, h => by
    cases v with
    | int k i =>
      cases k <;> simp only [bytesOf, reduceCtorEq] at h
      cases hb : bytesOf l with
      | none => rw [hb] at h; simp at h
      | some r' => rw [hb] at h; simp at h; subst h; rw [bytesOf_spec hb]; rfl
    | _ => simp [bytesOf] at h
def evText (P : Program) (H : Tr) (src dst : TypeId) (x : Value) : Option Value :=
  match P.underlying src, P.underlying dst, x with
  | some (.slice e), some .string, .slice (some ⟨b, o, none⟩) len _ => match P.underlying e, H.get b with
    | some (.int .u8), .cells cs _ _ => match readCells cs o len with
      | some l => match bytesOf l with
        | some ns => some (.string (ns.foldl (fun r n => r.push (UInt8.ofNat n.toNat)) ByteArray.empty))
        | none => none
      | none => none
    | _, _ => none
  | _, _, _ => none
theorem text_sound (h : Inq P n0 H n η W) {src dst : TypeId} {x v : Value} (he : evText P H src dst x = some v) :
    Wf n v ∧ (convert src dst (rV η x)).run P W = .ok (rV η v) W := by
  unfold evText at he
  split at he
  case h_2 => simp at he
  rename_i e b o len c hs hd
  split at he
  case h_2 => simp at he
  rename_i cs el op he' hb
  split at he
  case h_2 => simp at he
  rename_i l hl
  split at he
  case h_2 => simp at he
  rename_i ns hn
  simp only [Option.some.injEq] at he; subst he
  obtain ⟨h1, h2⟩ := readCells_spec hl
  obtain ⟨h3, h4⟩ := h.range hb h2
  have hload : (loadCells ⟨η.blk b, o, none⟩ len).run P W = .ok (ns.map (Value.int .u8)).toArray W := by
    have := run_loadCells_list (P := P) W ⟨η.blk b, o, none⟩ (l.map (rV η)) (fun j v hv => by rw [Addr.add_mid]; exact h3 j v hv)
    rw [List.length_map, h1] at this
    rw [this, bytesOf_spec hn, List.map_map]
    simp [Function.comp_def]
  refine ⟨fun _ _ _ => by simp, ?_⟩
  rw [rV_ssome, rA_mk, rV_string, run_convert_bytes_string W src dst e _ _ _ hs he' hd, run_bytesToString W _ _ _ ns hload]
def evBytes (P : Program) (H : Tr) (n : Nat) (src dst : TypeId) (x : Value) : Option Res :=
  match P.underlying src, P.underlying dst, x with
  | some .string, some (.slice e), .string s => match P.underlying e, P.info? e with
    | some (.int .u8), some i => if decide (n < most) && decide (s.size < 2 ^ 30) && decide (i.size = 1) then
        some ⟨.val (.slice (some ⟨n, 0, none⟩) s.size roomy), Tr.set depth H n (.cells (s.data.toList.map fun b => .int .u8 b.toNat) e true), n + 1⟩ else none
    | _, _ => none
  | _, _, _ => none
theorem bytes_sound (h : Inv P n0 w0 H n η W) {src dst : TypeId} {x : Value} {r : Res} (he : evBytes P H n src dst x = some r) :
    Runs P n0 w0 η n W (do pure (.value (← convert src dst (rV η x)))) r := by
  unfold evBytes at he
  split at he
  case h_2 => simp at he
  rename_i e s hs hd
  split at he
  case h_2 => simp at he
  rename_i i he' hi
  split at he
  case isFalse => simp at he
  rename_i hc
  simp only [Bool.and_eq_true, decide_eq_true_eq] at hc
  obtain ⟨⟨c1, c2⟩, c3⟩ := hc
  simp only [Option.some.injEq] at he; subst he
  obtain ⟨c, hcc, hch⟩ : ∃ c, s.size ≤ c ∧ (choose (.appendCap s.size 0 e)).run P W = .ok c W.drew :=
    ⟨_, by simp only [Question.cut]; omega, run_choose_cap _ _ _ _⟩
  let cells : Array Value := s.data.map (fun b => .int .u8 b.toNat) ++ Array.replicate (c - s.size) (.int .u8 0)
  have hsz : cells.size = c := by simp [cells]; have : s.data.size = s.size := rfl; omega
  have hrow : (newRow e cells).run P W.drew = .ok ⟨W.heap.size, 0, none⟩ (W.drew.alloc (.cells cells e)) := run_newRow e cells W.drew
  have hmark : (markStringish ⟨W.heap.size, 0, none⟩).run P (W.drew.alloc (.cells cells e)) = .ok () (W.drew.alloc (.cells cells e (c, c + 1))) := by
    have hshape : (W.drew.alloc (.cells cells e)).shape? W.heap.size = some (e, c) := by
      show (match (W.heap.push (.cells cells e))[W.heap.size]? with | some (.cells c elem _) => some (elem, c.size) | _ => none) = _
      simp [hsz]
    simp only [markStringish, shape, Sem.run_bind, Sem.run, hshape, Result.andThen_ok, freeze]
    simp only [World.freeze, Nat.one_ne_zero, if_false]
    have hheap : (W.heap.push (Obj.cells cells e)).modify W.heap.size (fun
        | .cells c1 elem (lo, hi) => .cells c1 elem (if lo == hi then (c, c + 1) else (min lo c, max hi (c + 1)))
        | o => o) = W.heap.push (.cells cells e (c, c + 1)) := by
      apply Array.ext_getElem?
      intro j
      rw [Array.getElem?_modify, Array.getElem?_push, Array.getElem?_push]
      by_cases hj : W.heap.size = j
      · subst hj; simp
      · rw [if_neg hj, if_neg (Ne.symm hj), if_neg (Ne.symm hj)]
    exact congrArg (fun hp => Result.ok () ({ W.drew with heap := hp } : World)) hheap
  refine ⟨_, _, Env.put_agree η n W.heap.size c, Nat.le_succ n, (h.drew).grow c1 c _ (.cells cells e (c, c + 1)) (fun η' ha hb hc' => ⟨?_, (Array.replicate (c - s.size) (Value.int .u8 0)).toList, (c, c + 1), ?_, ?_, fun hh => by simp at hh, fun _ => ?_⟩), Wf.slice (Nat.lt_succ_self n), ?_⟩
  · intro v hv
    simp only [List.mem_map] at hv
    obtain ⟨b, -, rfl⟩ := hv
    exact Wf.int _ _ _
  · rw [hb]
    show (W.drew.heap.push _)[W.drew.heap.size]? = _
    rw [Array.getElem?_push_size]
    congr 2
    apply Array.ext'
    simp [cells, Function.comp_def]
  · right
    have : (s.data.toList.map fun b => Value.int .u8 b.toNat).length = s.size := by simp
    rw [this]
    simp
    omega
  · have : (s.data.toList.map fun b => Value.int .u8 b.toNat).length = s.size := by simp
    rw [this, hc', cellsOf_info hi, c3]
    simp; omega
  · have hconv : (convert src dst (.string s)).run P W = .ok (.slice (some ⟨W.heap.size, 0, none⟩) s.size c) (W.drew.alloc (.cells cells e (c, c + 1))) := by
      simp only [convert, Sem.run_bind, run_underlying hs, run_underlying hd, run_underlying he', Result.andThen_ok, Conv.stringToBytes, hch]
      rw [show (newRow e (s.data.map (fun b => .int .u8 b.toNat) ++ Array.replicate (c - s.size) (.int .u8 0))) = newRow e cells from rfl, hrow]
      simp only [Result.andThen_ok, hmark, Sem.run_pure]
    rw [rV_string]
    simp only [Sem.run_bind, hconv, Result.andThen_ok, Sem.run_pure]
    simp [rA_mk, rCap, roomy]

/-- A row of bytes marked as a text's. -/
def evMark (P : Program) (n0 : Nat) (H : Tr) (n : Nat) (src dst : TypeId) (x : Value) : Option Res :=
  match P.underlying src, P.underlying dst, x with
  | some (.slice _), some (.slice e), .slice (some ⟨b, o, none⟩) _ _ => match P.underlying e, H.get b with
    | some (.int .u8), .cells cs el op => if decide (src = dst) && decide (n0 ≤ b) && decide (n < most) then some ⟨.val x, Tr.set depth H b (.cells cs el op), n⟩ else none
    | _, _ => none
  | _, _, _ => none
theorem mark_sound (h : Inv P n0 w0 H n η W) {src dst : TypeId} {x : Value} {r : Res} (hx : Wf n x) (he : evMark P n0 H n src dst x = some r) :
    Runs P n0 w0 η n W (do pure (.value (← convert src dst (rV η x)))) r := by
  unfold evMark at he
  split at he
  case h_2 => simp at he
  rename_i e0 e b o len c hs hd
  split at he
  case h_2 => simp at he
  rename_i cs el op he' hb
  split at he
  case isFalse => simp at he
  rename_i hc
  simp only [Bool.and_eq_true, decide_eq_true_eq] at hc
  obtain ⟨⟨c1, c2⟩, c3⟩ := hc
  simp only [Option.some.injEq] at he; subst he; subst c1
  have hlt := h.lt_of_live (b := b) (by rw [hb]; trivial)
  have hat := h.at' b hlt
  rw [hb] at hat
  obtain ⟨hw, ex, fz, g1, g2, g3, g4⟩ := hat
  have hsz : (cs.map (rV η) ++ ex).toArray.size = cs.length + ex.length := by simp
  have hblk : (W.freeze ⟨η.blk b, cs.length + ex.length, none⟩ 1).heap[η.blk b]? = some (.cells (cs.map (rV η) ++ ex).toArray el (if fz.1 == fz.2 then (cs.length + ex.length, cs.length + ex.length + 1) else (min fz.1 (cs.length + ex.length), max fz.2 (cs.length + ex.length + 1)))) := by
    obtain ⟨lo, hi⟩ := fz
    simp only [World.freeze, Nat.one_ne_zero, if_false, Array.getElem?_modify, if_true, g1, Option.map_some]
  have hT := h.turn (W' := W.freeze ⟨η.blk b, cs.length + ex.length, none⟩ 1) c3 hlt c2 (by rw [hb]; trivial) (.cells cs el op) (by simp [World.freeze]) (fun k hk => by
      simp only [World.freeze, Nat.one_ne_zero, if_false, Array.getElem?_modify]
      rw [if_neg (Ne.symm hk)])
    ⟨hw, ex, _, hblk, by
      by_cases hz : fz.1 = fz.2
      · rw [if_pos (by simpa using hz)]; right; exact Nat.le_refl _
      · rw [if_neg (by simpa using hz)]; right; simp; omega, g3, g4⟩
  refine ⟨η, _, .refl _ _, Nat.le_refl _, hT, hx, ?_⟩
  have hshape : W.shape? (η.blk b) = some (el, cs.length + ex.length) := by
    simp only [World.shape?, g1, hsz]
  have hmark : (markStringish ⟨η.blk b, o, none⟩).run P W = .ok () (W.freeze ⟨η.blk b, cs.length + ex.length, none⟩ 1) := by
    simp only [markStringish, shape, Sem.run_bind, Sem.run, hshape, Result.andThen_ok, freeze]
  simp only [rV_ssome, rA_mk, convert, Sem.run_bind, run_underlying hs, Result.andThen_ok]
  have he0 : e0 = e := by have := hs.symm.trans hd; simpa using this
  subst he0
  simp only [run_underlying he', Result.andThen_ok, beq_self_eq_true, Sem.run_bind, hmark, Sem.run_pure]

/-! ### Numbers -/
def maxN : IntKind → Nat
  | .i8 => 127
  | .u8 => 255
  | .i16 => 32767
  | .u16 => 65535
  | .i32 => 2147483647
  | .u32 => 4294967295
  | .i64 => 9223372036854775807
  | .u64 => 18446744073709551615
def wrapF (k : IntKind) (n : Int) : Int :=
  match n with
  | .ofNat m => match Nat.ble m (maxN k) with
    | true => .ofNat m
    | false => k.wrap n
  | .negSucc _ => k.wrap n
theorem wrapF_eq (k : IntKind) (n : Int) : wrapF k n = k.wrap n := by
  unfold wrapF
  split
  · rename_i m
    split
    · rename_i h
      have h' : m ≤ maxN k := Nat.le_of_ble_eq_true h
      have e : (Int.ofNat m) = (m : Int) := rfl
      cases k <;> simp only [maxN] at h' <;> simp [IntKind.wrap, IntKind.bits, IntKind.signed] <;> omega
    · rfl
  · rfl
def kEq : IntKind → IntKind → Bool
  | .i64, .i64 => true
  | .u8, .u8 => true
  | .u64, .u64 => true
  | .i32, .i32 => true
  | .u32, .u32 => true
  | .i16, .i16 => true
  | .u16, .u16 => true
  | .i8, .i8 => true
  | _, _ => false
theorem kEq_spec {a b : IntKind} (h : kEq a b = true) : a = b := by
  cases a <;> cases b <;> first | rfl | simp [kEq] at h
def iEq : Int → Int → Bool
  | .ofNat a, .ofNat b => Nat.beq a b
  | .negSucc a, .negSucc b => Nat.beq a b
  | _, _ => false
theorem iEq_eq (a b : Int) : iEq a b = (a == b) := by
  cases a with
  | ofNat a => cases b with
    | ofNat b =>
      simp only [iEq]
      by_cases h : a = b
      · subst h; simp
      · rw [beqF h]; symm; simp; omega
    | negSucc b => simp [iEq]
  | negSucc a => cases b with
    | ofNat b => simp [iEq]
    | negSucc b =>
      simp only [iEq]
      by_cases h : a = b
      · subst h; simp
      · rw [beqF h]; symm; simp; omega
def iLt : Int → Int → Bool
  | .ofNat a, .ofNat b => Nat.ble (a + 1) b
  | .negSucc a, .negSucc b => Nat.ble (b + 1) a
  | .negSucc _, .ofNat _ => true
  | .ofNat _, .negSucc _ => false
theorem ble_eq (a b : Nat) : Nat.ble a b = decide (a ≤ b) := by
  by_cases h : a ≤ b
  · rw [Nat.ble_eq_true_of_le h]; simp [h]
  · have : Nat.ble a b = false := by
      cases hb : Nat.ble a b with
      | false => rfl
      | true => exact absurd (Nat.le_of_ble_eq_true hb) h
    rw [this]; simp [h]
theorem iLt_eq (a b : Int) : iLt a b = decide (a < b) := by
  cases a <;> cases b <;> simp only [iLt, ble_eq] <;> first | (congr 1; apply propext; omega) | (symm; simp; omega) | skip
def intOp (op : BinOp) (k : IntKind) (a b : Int) : Option Value :=
  match op with
  | .add => some (.int k (wrapF k (a + b)))
  | .sub => some (.int k (wrapF k (a - b)))
  | .mul => some (.int k (wrapF k (a * b)))
  | .eql => some (.bool (iEq a b))
  | .neq => some (.bool (!iEq a b))
  | .lss => some (.bool (iLt a b))
  | .leq => some (.bool (!iLt b a))
  | .gtr => some (.bool (iLt b a))
  | .geq => some (.bool (!iLt a b))
  | _ => none
theorem intOp_sound {op : BinOp} {t : TypeId} {xo yo : Operand} {k : IntKind} {a b : Int} {v : Value} (h : intOp op k a b = some v) (W : World) :
    Wf n v ∧ rV η v = v ∧ (do eqGuard op t xo yo (.int k a) (.int k b); binOp op t (.int k a) (.int k b) : Sem Value).run P W = .ok v W := by
  have hg : (eqGuard op t xo yo (.int k a) (.int k b)).run P W = .ok () W := by cases op <;> simp [eqGuard]
  cases op <;> simp only [intOp, Option.some.injEq, reduceCtorEq] at h <;> subst h <;>
    refine ⟨fun _ _ _ => by simp, by simp, ?_⟩ <;> simp only [Sem.run_bind, hg, Result.andThen_ok] <;>
    (simp [binOp, Op.intArith, Op.intCmp, wrapF_eq, iEq_eq, iLt_eq]; try first | rfl | (simp [← Int.not_lt]; done))
def evBin (P : Program) (op : BinOp) (t : TypeId) (x y : Value) : Option Value :=
  match x with
  | .int k a => match y with
    | .int j b => match kEq k j with
      | true => intOp op k a b
      | false => none
    | _ => none
  | .agg ⟨xs⟩ => match y with
    | .agg ⟨ys⟩ => evAggEq P op t xs ys
    | _ => none
  | _ => evNil P op t x y
theorem bin_sound {op : BinOp} {t : TypeId} {x y v : Value} {xo yo : Operand} (he : evBin P op t x y = some v) (W : World) :
    Wf n v ∧ (do eqGuard op t xo yo (rV η x) (rV η y); binOp op t (rV η x) (rV η y) : Sem Value).run P W = .ok (rV η v) W := by
  unfold evBin at he
  split at he
  · rename_i k a
    split at he
    · rename_i j b
      split at he
      · rename_i hk
        have := kEq_spec hk
        subst this
        obtain ⟨h1, h2, h3⟩ := intOp_sound (P := P) (n := n) (η := η) (t := t) (xo := xo) (yo := yo) he W
        exact ⟨h1, by rw [rV_int, rV_int, h2]; exact h3⟩
      · simp at he
    · simp at he
  · split at he
    · exact aggEq_sound he W
    · simp at he
  · exact nil_sound he W
def evUn (u : UnOp) (x : Value) : Option Value :=
  match u, x with
  | .not, .bool b => some (.bool (!b))
  | _, _ => none
theorem un_sound {u : UnOp} {x v : Value} (he : evUn u x = some v) (W : World) : Wf n v ∧ (Op.unary u (rV η x)).run P W = .ok (rV η v) W := by
  unfold evUn at he
  split at he
  · simp only [Option.some.injEq] at he; subst he
    exact ⟨fun _ _ _ => by simp, by simp [Op.unary]⟩
  · simp at he
def evConv (P : Program) (H : Tr) (src dst : TypeId) (x : Value) : Option Value :=
  match x with
  | .int _ i => match P.underlying src, P.underlying dst with
    | some _, some (.int k) => some (.int k (wrapF k i))
    | _, _ => none
  | _ => evText P H src dst x
theorem conv_sound (h : Inq P n0 H n η W) {src dst : TypeId} {x v : Value} (he : evConv P H src dst x = some v) : Wf n v ∧ (convert src dst (rV η x)).run P W = .ok (rV η v) W := by
  unfold evConv at he
  split at he
  · rename_i j i
    split at he
    · rename_i d k hs hd
      simp only [Option.some.injEq] at he; subst he
      refine ⟨fun _ _ _ => by simp, ?_⟩
      simp [convert, run_underlying hs, run_underlying hd, Conv.intToInt, wrapF_eq]
    · simp at he
  · exact text_sound h he

def okOp (n0 : Nat) : Operand → Bool
  | .tmp _ => true
  | .const v => fixed n0 4 v
  | .global g => decide (g < n0)
  | .func _ => true

def one (H : Tr) (n : Nat) (v : Option Value) : Option (List Res) := v.map fun v => [⟨.val v, H, n⟩]
def single (r : Option Res) : Option (List Res) := r.map fun r => [r]

/-- A call of a builtin that leaves memory alone. -/
def evCallVal (P : Program) (H : Tr) (ρ : Operand → Value) (c : Call) : Option Value :=
  match c.callee with
  | .builtin .len => evLenB P H c.argTypes.toList (c.args.toList.map ρ)
  | .builtin .cap => evCapB P c.argTypes.toList (c.args.toList.map ρ)
  | _ => none
def evCallOp (P : Program) (n0 : Nat) (H : Tr) (n : Nat) (ρ : Operand → Value) (c : Call) : Option (List Res) :=
  match c.callee with
  | .value f => (evCall P (ρ f) (c.args.toList.map ρ)).map fun out => [⟨out, H, n⟩]
  | .invoke r name => (evInvoke P H (ρ r) name (c.args.toList.map ρ)).map fun out => [⟨out, H, n⟩]
  | .builtin .append => single (evAppend P n0 H n c.argTypes.toList (c.args.toList.map ρ))
  | .builtin .copy => single (evCopy P n0 H n c.argTypes.toList (c.args.toList.map ρ))
  | .builtin .delete => single (evDelete P n0 H n c.argTypes.toList (c.args.toList.map ρ))
  | _ => none

/-- Operations that leave memory alone. -/
def evVal (P : Program) (n0 : Nat) (H : Tr) (ρ : Operand → Value) (op : Op) : Option Value :=
  match op with
  | .move x => some (ρ x)
  | .assign x => some (ρ x)
  | .pick c a b => match ρ c with
    | .bool t => some (if t then ρ a else ρ b)
    | _ => none
  | .build t parts => evBuild P n0 t (parts.toList.map fun p => (p.1, ρ p.2))
  | .load t x => evLoad P H t (ρ x)
  | .nilCheck x => match ρ x with
    | .pointer (some a) => some (.pointer (some a))
    | .func (.func f) xs ys => some (.func (.func f) xs ys)
    | _ => none
  | .binOp op t x y _ => evBin P op t (ρ x) (ρ y)
  | .unOp u _ x => evUn u (ρ x)
  | .makeFunc (.func f) first captured => some (.func (.func f) (first.toList.map ρ).toArray (captured.toList.map ρ).toArray)
  | .slice t x lo hi mx => evSlice P H t (ρ x) (lo.map ρ) (hi.map ρ) (mx.map ρ)
  | .fieldAddr t x f => evFieldAddr P t (ρ x) f
  | .field t x f => evField P t (ρ x) f
  | .indexAddr t x i => evIndexAddr P t (ρ x) (ρ i)
  | .index t x i => evIndex P t (ρ x) (ρ i)
  | .lookup t x i ok => evLookup P n0 H t (ρ x) (ρ i) ok
  | .extract t i => match ρ t with
    | .tuple vs => vs.toList[i]?
    | _ => none
  | .convert src dst x => evConv P H src dst (ρ x)
  | .entry it => evEntry H (ρ it)
  | .makeInterface t x => evMakeI P t (ρ x)
  | .typeAssert x _ t ok => evAssert P (ρ x) t ok
  | .call c => evCallVal P H ρ c
  | _ => none

/-- Operations that make or turn memory. -/
def evOp (P : Program) (n0 : Nat) (H : Tr) (n : Nat) (ρ : Operand → Value) (op : Op) : Option (List Res) :=
  match op with
  | .alloc e => single (evAlloc P n0 H n e)
  | .box e x => single (evBox H n e (ρ x))
  | .buildSlice t len parts => single (evBuildSlice P n0 H n t len (parts.toList.map fun p => (p.1, ρ p.2)))
  | .store t x y => (evStore P n0 H n t (ρ x) (ρ y)).map fun H' => [⟨.skip, H', n⟩]
  | .makeMap t r => single (evMakeMap P H n t (r.map ρ))
  | .makeSlice t l c => single (evMakeSlice P n0 H n t (ρ l) (ρ c))
  | .mapUpdate t m k x => single (evMapUpdate P n0 H n t (ρ m) (ρ k) (ρ x))
  | .insert t m k x => single (evMapUpdate P n0 H n t (ρ m) (ρ k) (ρ x))
  | .range t x => single (evRange P H n t (ρ x))
  | .next it isS => evNext H n n0 (ρ it) isS
  | .convert src dst x => match evBytes P H n src dst (ρ x) with
    | some r => some [r]
    | none => single (evMark P n0 H n src dst (ρ x))
  | .call c => evCallOp P n0 H n ρ c
  | _ => none

def notSel : Op → Bool
  | .select _ _ => false
  | _ => true
/-- An operation none of whose operands holds numbers of one's own. -/
def evPure (P : Program) (n0 : Nat) (ρ : Operand → Value) (o : Oper) : Option Value :=
  if notSel o.op && o.op.operands.toList.all fun x => fixed n0 6 (ρ x) then
    match pureRun P (execOp ρ o) with
    | some (.value v) => if fixed n0 6 v then some v else none
    | _ => none
  else none
/-- An operation that leaves memory alone. -/
def evQ (P : Program) (n0 : Nat) (H : Tr) (ρ : Operand → Value) (o : Oper) : Option Value :=
  match evVal P n0 H ρ o.op with
  | some v => some v
  | none => evPure P n0 ρ o
theorem single_spec {v : Option Res} {rs : List Res} (h : single v = some rs) : ∃ u, v = some u ∧ rs = [u] := by
  cases v with
  | none => simp [single] at h
  | some u => simp [single] at h; exact ⟨u, rfl, h.symm⟩
theorem Runs.one {s : Sem Next} {r : Res} (h : Runs P n0 w0 η n W s r) : ∃ r' ∈ [r], Runs P n0 w0 η n W s r' := ⟨r, List.mem_singleton_self _, h⟩

def Good (n0 : Nat) (η : Env) (n : Nat) (ρ ρ' : Operand → Value) : Prop := ∀ x, okOp n0 x = true → ρ' x = rV η (ρ x) ∧ Wf n (ρ x)

theorem Good.list {ρ ρ' : Operand → Value} (hg : Good n0 η n ρ ρ') {xs : Array Operand} (h : ∀ x ∈ xs, okOp n0 x = true) : xs.map ρ' = ((xs.toList.map ρ).map (rV η)).toArray ∧ WfL n (xs.toList.map ρ) := by
  constructor
  · apply Array.ext'
    simp only [Array.toList_map, List.map_map]
    exact List.map_congr_left fun x hx => (hg x (h x (by simpa using hx))).1
  · intro v hv
    simp only [List.mem_map] at hv
    obtain ⟨x, hx, rfl⟩ := hv
    exact (hg x (h x (by simpa using hx))).2
theorem Good.parts {ρ ρ' : Operand → Value} (hg : Good n0 η n ρ ρ') {ps : Array (Nat × Operand)} (h : ∀ p ∈ ps, okOp n0 p.2 = true) :
    (ps.map fun p => (p.1, ρ' p.2)) = ((ps.toList.map fun p => (p.1, ρ p.2)).map fun p => (p.1, rV η p.2)).toArray ∧ ∀ p ∈ ps.toList.map fun p => (p.1, ρ p.2), Wf n p.2 := by
  constructor
  · apply Array.ext'
    simp only [Array.toList_map, List.map_map]
    exact List.map_congr_left fun x hx => by simp [(hg x.2 (h x (by simpa using hx))).1]
  · intro p hp
    simp only [List.mem_map] at hp
    obtain ⟨x, hx, rfl⟩ := hp
    exact (hg x.2 (h x (by simpa using hx))).2
theorem Good.opt {ρ ρ' : Operand → Value} (hg : Good n0 η n ρ ρ') {x : Option Operand} (h : ∀ y, x = some y → okOp n0 y = true) : x.map ρ' = (x.map ρ).map (rV η) := by
  cases x with
  | none => rfl
  | some y => simp [(hg y (h y rfl)).1]

theorem evCallOp_sound (h : Inv P n0 w0 H n η W) {ρ ρ' : Operand → Value} (hg : Good n0 η n ρ ρ') {c : Call} {ty : TypeId} (hok : ∀ x ∈ c.operands, okOp n0 x = true) {rs : List Res} (he : evCallOp P n0 H n ρ c = some rs) :
    ∃ r ∈ rs, Runs P n0 w0 η n W (do let d ← resolve ρ' c ty; invoke d.target d.args) r := by
  obtain ⟨ha, hwa⟩ := hg.list (xs := c.args) fun x hx => hok x (by simp [Call.operands, hx])
  unfold evCallOp at he
  split at he
  · rename_i f hc
    cases ho : evCall P (ρ f) (c.args.toList.map ρ) with
    | none => rw [ho] at he; simp at he
    | some out =>
      rw [ho] at he; simp at he; subst he
      obtain ⟨hf, hwf⟩ := hg f (hok f (by simp [Call.operands, hc]))
      exact (call_sound h hc hf ha hwf hwa ho).one
  · rename_i ro name hc
    cases ho : evInvoke P H (ρ ro) name (c.args.toList.map ρ) with
    | none => rw [ho] at he; simp at he
    | some out =>
      rw [ho] at he; simp at he; subst he
      obtain ⟨hf, hwf⟩ := hg ro (hok ro (by simp [Call.operands, hc]))
      exact (invoke_sound h hc hf ha hwf hwa ho).one
  · rename_i hc
    obtain ⟨u, hu, rfl⟩ := single_spec he
    have := append_sound (ty := ty) h hwa hu
    simp only [resolve, hc, Sem.run_pure, pure_bind, invoke, builtin, ha]
    exact this.one
  · rename_i hc
    obtain ⟨u, hu, rfl⟩ := single_spec he
    have := copy_sound (ty := ty) h hu
    simp only [resolve, hc, pure_bind, invoke, builtin, ha]
    exact this.one
  · rename_i hc
    obtain ⟨u, hu, rfl⟩ := single_spec he
    have := delete_sound (ty := ty) h hu
    simp only [resolve, hc, pure_bind, invoke, builtin, ha]
    exact this.one
  · simp at he
theorem evCallVal_sound (h : Inq P n0 H n η W) {ρ ρ' : Operand → Value} (hg : Good n0 η n ρ ρ') {c : Call} {ty : TypeId} (hok : ∀ x ∈ c.operands, okOp n0 x = true) {u : Value} (he : evCallVal P H ρ c = some u) :
    Wf n u ∧ (do let d ← resolve ρ' c ty; invoke d.target d.args : Sem Next).run P W = .ok (.value (rV η u)) W := by
  obtain ⟨ha, hwa⟩ := hg.list (xs := c.args) fun x hx => hok x (by simp [Call.operands, hx])
  unfold evCallVal at he
  split at he
  · rename_i hc
    obtain ⟨h1, h2⟩ := lenB_sound (ty := ty) h he
    refine ⟨h1, ?_⟩
    simp only [resolve, hc, pure_bind, invoke, builtin, ha]
    simp only [Sem.run_bind, h2, Result.andThen_ok, Sem.run_pure]
  · rename_i hc
    obtain ⟨h1, h2⟩ := capB_sound (ty := ty) (η := η) (n := n) he W
    refine ⟨h1, ?_⟩
    simp only [resolve, hc, pure_bind, invoke, builtin, ha]
    simp only [Sem.run_bind, h2, Result.andThen_ok, Sem.run_pure]
  · simp at he
theorem lift {s : Sem Value} {v : Value} (hs : Wf n v ∧ s.run P W = .ok (rV η v) W) : Wf n v ∧ (do pure (.value (← s)) : Sem Next).run P W = .ok (.value (rV η v)) W :=
  ⟨hs.1, by simp only [Sem.run_bind, hs.2, Result.andThen_ok, Sem.run_pure]⟩
theorem evVal_sound (h : Inq P n0 H n η W) {ρ ρ' : Operand → Value} (hg : Good n0 η n ρ ρ') {o : Oper} (hok : ∀ x ∈ o.op.operands, okOp n0 x = true) {u : Value} (he : evVal P n0 H ρ o.op = some u) :
    Wf n u ∧ (execOp ρ' o).run P W = .ok (.value (rV η u)) W := by
  obtain ⟨dst, op, type, pos, after, guard⟩ := o
  dsimp only at hok he
  have O : ∀ x, x ∈ op.operands → ρ' x = rV η (ρ x) ∧ Wf n (ρ x) := fun x hx => hg x (hok x hx)
  cases op <;> simp only [evVal, reduceCtorEq] at he <;> simp only [Op.operands] at O hok <;> simp only [execOp]
  case move x =>
    simp only [Option.some.injEq] at he; subst he
    exact ⟨(O x (by simp)).2, by rw [(O x (by simp)).1]; rfl⟩
  case assign x =>
    simp only [Option.some.injEq] at he; subst he
    exact ⟨(O x (by simp)).2, by rw [(O x (by simp)).1]; rfl⟩
  case pick c a b =>
    split at he
    · rename_i t ht
      simp only [Option.some.injEq] at he; subst he
      obtain ⟨c1, -⟩ := O c (by simp)
      obtain ⟨a1, a2⟩ := O a (by simp)
      obtain ⟨b1, b2⟩ := O b (by simp)
      rw [ht, rV_bool] at c1
      refine ⟨?_, ?_⟩
      · cases t <;> assumption
      · simp only [c1, asBool, Sem.run_bind, Sem.run_pure, Result.andThen_ok]
        cases t <;> simp [a1, b1]
    · simp at he
  case build t parts =>
    obtain ⟨p1, p2⟩ := hg.parts (ps := parts) fun p hp => hok p.2 (by simpa using ⟨p.1, hp⟩)
    rw [p1]; exact lift (build_sound h p2 he)
  case load t x =>
    rw [(O x (by simp)).1]; exact lift (load_sound h he)
  case nilCheck x =>
    obtain ⟨x1, x2⟩ := O x (by simp)
    split at he
    · rename_i a hx
      simp only [Option.some.injEq] at he; subst he
      rw [hx] at x1 x2
      refine ⟨x2, ?_⟩
      rw [x1, rV_psome]
      simp
    · rename_i f xs ys hx
      simp only [Option.some.injEq] at he; subst he
      rw [hx] at x1 x2
      refine ⟨x2, ?_⟩
      rw [x1, rV_func]
      simp [rFn]
    · simp at he
  case binOp bop t x y yt =>
    obtain ⟨x1, -⟩ := O x (by simp)
    obtain ⟨y1, -⟩ := O y (by simp)
    rw [x1, y1]
    exact lift (bin_sound he W)
  case unOp u t x =>
    rw [(O x (by simp)).1]; exact lift (un_sound he W)
  case makeFunc fn first captured =>
    cases fn with
    | func f =>
      simp only [Option.some.injEq] at he; subst he
      obtain ⟨a1, a2⟩ := hg.list (xs := first) fun x hx => hok x (by simp [hx])
      obtain ⟨b1, b2⟩ := hg.list (xs := captured) fun x hx => hok x (by simp [hx])
      rw [a1, b1]
      refine lift ⟨Wf.func_mk a2 b2, ?_⟩
      simp [Instr.makeFunc, rFn]
    | _ => simp at he
  case slice t x lo hi mx =>
    obtain ⟨x1, x2⟩ := O x (by simp)
    rw [x1, hg.opt (x := lo) fun y hy => hok y (by simp [hy]), hg.opt (x := hi) fun y hy => hok y (by simp [hy]), hg.opt (x := mx) fun y hy => hok y (by simp [hy])]
    exact lift (slice_sound h x2 he)
  case fieldAddr t x f =>
    obtain ⟨x1, x2⟩ := O x (by simp)
    rw [x1]; exact lift (fieldAddr_sound x2 he W)
  case field t x f =>
    obtain ⟨x1, x2⟩ := O x (by simp)
    rw [x1]; exact lift (field_sound x2 he W)
  case indexAddr t x i =>
    obtain ⟨x1, x2⟩ := O x (by simp)
    rw [x1, (O i (by simp)).1]; exact lift (indexAddr_sound x2 he W)
  case index t x i =>
    obtain ⟨x1, x2⟩ := O x (by simp)
    rw [x1, (O i (by simp)).1]; exact lift (index_sound x2 he W)
  case lookup t x i ok =>
    rw [(O x (by simp)).1, (O i (by simp)).1]; exact lift (lookup_sound h he)
  case extract t i =>
    obtain ⟨t1, t2⟩ := O t (by simp)
    split at he
    · rename_i vs ht
      rw [ht] at t1 t2
      rw [t1]
      refine lift ⟨WfL.tuple.1 t2 u (List.mem_of_getElem? he), ?_⟩
      have : (vs.map (rV η))[i]? = some (rV η u) := by rw [Array.getElem?_map, ← Array.getElem?_toList, he]; rfl
      simp [Instr.extract, this]
    · simp at he
  case convert src dst x =>
    rw [(O x (by simp)).1]; exact lift (conv_sound h he)
  case makeInterface t x =>
    obtain ⟨x1, x2⟩ := O x (by simp)
    rw [x1]; exact lift (makeI_sound x2 he W)
  case typeAssert x xt t ok =>
    obtain ⟨x1, x2⟩ := O x (by simp)
    rw [x1]; exact lift (assert_sound x2 he W)
  case entry it =>
    rw [(O it (by simp)).1]; exact lift (entry_sound h he)
  case call c =>
    exact evCallVal_sound h hg hok he
theorem evPure_sound (hf : Fix n0 η) (hn : n0 ≤ n) {ρ ρ' : Operand → Value} (hg : Good n0 η n ρ ρ') {o : Oper} (hok : ∀ x ∈ o.op.operands, okOp n0 x = true) {u : Value} (he : evPure P n0 ρ o = some u) (W : World) :
    Wf n u ∧ (execOp ρ' o).run P W = .ok (.value (rV η u)) W := by
  unfold evPure at he
  split at he
  case isFalse => simp at he
  rename_i hall
  have hall0 := hall
  simp only [Bool.and_eq_true, List.all_eq_true] at hall
  split at he
  case h_2 => simp at he
  rename_i v hv
  split at he
  case isFalse => simp at he
  rename_i hfv
  simp only [Option.some.injEq] at he; subst he
  have hns : ∀ cs b, o.op ≠ .select cs b := by
    intro cs b e
    rw [e] at hall0
    simp [notSel] at hall0
  have : execOp ρ' o = execOp ρ o := execOp_congr o hns fun x hx => by
    rw [(hg x (hok x hx)).1]
    exact fixed_spec hf 6 _ (hall.2 x (by simpa using hx))
  refine ⟨Wf.of_fixed hfv hn, ?_⟩
  rw [this, pureRun_spec _ _ hv W, fixed_spec hf 6 _ hfv]
theorem evQ_sound (h : Inq P n0 H n η W) {ρ ρ' : Operand → Value} (hg : Good n0 η n ρ ρ') {o : Oper} (hok : ∀ x ∈ o.op.operands, okOp n0 x = true) {u : Value} (he : evQ P n0 H ρ o = some u) :
    Wf n u ∧ (execOp ρ' o).run P W = .ok (.value (rV η u)) W := by
  unfold evQ at he
  split at he
  · rename_i v hv
    simp only [Option.some.injEq] at he; subst he
    exact evVal_sound h hg hok hv
  · exact evPure_sound h.fix h.n0n hg hok he W
theorem evOp_sound (h : Inv P n0 w0 H n η W) {ρ ρ' : Operand → Value} (hg : Good n0 η n ρ ρ') {o : Oper} (hok : ∀ x ∈ o.op.operands, okOp n0 x = true) {rs : List Res} (he : evOp P n0 H n ρ o.op = some rs) :
    ∃ r ∈ rs, Runs P n0 w0 η n W (execOp ρ' o) r := by
  obtain ⟨dst, op, type, pos, after, guard⟩ := o
  dsimp only at hok he
  have O : ∀ x, x ∈ op.operands → ρ' x = rV η (ρ x) ∧ Wf n (ρ x) := fun x hx => hg x (hok x hx)
  cases op <;> simp only [evOp, reduceCtorEq] at he <;> simp only [Op.operands] at O hok <;> simp only [execOp]
  case alloc e =>
    obtain ⟨u, hu, rfl⟩ := single_spec he
    exact (alloc_sound h hu).one
  case box e x =>
    obtain ⟨u, hu, rfl⟩ := single_spec he
    obtain ⟨x1, x2⟩ := O x (by simp)
    rw [x1]; exact (box_sound h x2 hu).one
  case buildSlice t len parts =>
    obtain ⟨u, hu, rfl⟩ := single_spec he
    obtain ⟨p1, p2⟩ := hg.parts (ps := parts) fun p hp => hok p.2 (by simpa using ⟨p.1, hp⟩)
    rw [p1]; exact (buildSlice_sound h p2 hu).one
  case store t x y =>
    cases hs : evStore P n0 H n t (ρ x) (ρ y) with
    | none => rw [hs] at he; simp at he
    | some H' =>
      rw [hs] at he; simp at he; subst he
      obtain ⟨x1, -⟩ := O x (by simp)
      obtain ⟨y1, y2⟩ := O y (by simp)
      obtain ⟨W', hI, hr⟩ := store_sound h y2 hs
      refine Runs.one ⟨η, W', .refl _ _, Nat.le_refl _, hI, ?_⟩
      simp only [x1, y1, Sem.run_bind, hr, Result.andThen_ok, Sem.run_pure]
  case makeMap t r =>
    obtain ⟨u, hu, rfl⟩ := single_spec he
    rw [hg.opt (x := r) fun y hy => hok y (by simp [hy])]
    exact (makeMap_sound h hu).one
  case makeSlice t l c =>
    obtain ⟨u, hu, rfl⟩ := single_spec he
    rw [(O l (by simp)).1, (O c (by simp)).1]
    exact (makeSlice_sound h hu).one
  case mapUpdate t m k x =>
    obtain ⟨u, hu, rfl⟩ := single_spec he
    rw [(O m (by simp)).1, (O k (by simp)).1, (O x (by simp)).1]
    exact (mapUpdate_sound h (O x (by simp)).2 (O k (by simp)).2 hu).one
  case insert t m k x =>
    obtain ⟨u, hu, rfl⟩ := single_spec he
    rw [(O m (by simp)).1, (O k (by simp)).1, (O x (by simp)).1]
    exact (mapUpdate_sound h (O x (by simp)).2 (O k (by simp)).2 hu).one
  case range t x =>
    obtain ⟨u, hu, rfl⟩ := single_spec he
    rw [(O x (by simp)).1]
    exact (range_sound h hu).one
  case next it isS =>
    rw [(O it (by simp)).1]
    exact next_sound h he
  case convert src dst x =>
    rw [(O x (by simp)).1]
    split at he
    · rename_i r hr
      simp only [Option.some.injEq] at he; subst he
      exact (bytes_sound h hr).one
    · obtain ⟨u, hu, rfl⟩ := single_spec he
      exact (mark_sound h (O x (by simp)).2 hu).one
  case call c =>
    exact evCallOp_sound h hg hok he
end
end Go.Proofs.YtjcnpjidkimldaaGreatDoor.Ev
