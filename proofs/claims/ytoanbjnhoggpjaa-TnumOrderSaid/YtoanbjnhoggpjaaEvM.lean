/-
  A closed call evaluated: maps.
-/
import Derived.Test.YtoanbjnhoggpjaaEvR
namespace Go.Proofs.Ytoanbjnhoggpjaa.Ev
set_option linter.unusedSimpArgs false
set_option linter.unusedVariables false
set_option maxRecDepth 100000
open Go Go.RowKit

section
variable {P : Program} {n0 : Nat} {w0 : World} {H : Tr} {n : Nat} {η : Env} {W : World}

def rE (η : Env) (e : MapEntry) : MapEntry := { e with key := rV η e.key, val := rV η e.val }
def WfE (n : Nat) (e : MapEntry) : Prop := Wf n e.key ∧ Wf n e.val
theorem rO_map (η : Env) (es : Array MapEntry) (c : Nat) : rO η (.map es c) = .map (es.map (rE η)) c := rfl
theorem WfO.map_iff {es : Array MapEntry} {c : Nat} : WfO n (.map es c) ↔ ∀ e ∈ es.toList, WfE n e := by
  constructor
  · intro h e he
    constructor <;> intro η η' ha <;>
    · have := h η η' ha
      simp only [rO_map, Obj.map.injEq, and_true] at this
      have h2 := congrArg Array.toList this
      simp only [Array.toList_map] at h2
      have h3 := List.map_inj_left.1 h2 e he
      simp only [rE, MapEntry.mk.injEq] at h3
      first | exact h3.1 | exact h3.2.1
  · intro h η η' ha
    simp only [rO_map, Obj.map.injEq, and_true]
    refine Array.map_congr_left fun e he => ?_
    obtain ⟨h1, h2⟩ := h e (by simpa using he)
    simp only [rE, h1 η η' ha, h2 η η' ha]
theorem Inq.obj (h : Inq P n0 H n η W) {b : Nat} {o : Obj} (hb : H.get b = .obj o) : WfO n o ∧ notCells (rO η o) ∧ W.heap[η.blk b]? = some (rO η o) := by
  have hlt := h.lt_of_live (b := b) (by rw [hb]; trivial)
  have := h.at' b hlt
  rw [hb] at this
  exact this
theorem run_getObj {r : Nat} {o : Obj} (h : W.heap[r]? = some o) (hn : notCells o) : (getObj r).run P W = .ok o W := by
  cases o <;> first | exact hn.elim | simp [getObj, Sem.run, h]
theorem run_setObj {r : Nat} {o o' : Obj} (h : W.heap[r]? = some o) (hn : notCells o) : (setObj r o').run P W = .ok () { W with heap := W.heap.setIfInBounds r o' } := by
  cases o <;> first | exact hn.elim | simp [setObj, Sem.run, h]
theorem Inv.setObj (h : Inv P n0 w0 H n η W) (hm : n < most) {b : Nat} {o o' : Obj} (hb : H.get b = .obj o) (h0 : n0 ≤ b) (hw : WfO n o') (hn : notCells (rO η o')) :
    Inv P n0 w0 (Tr.set depth H b (.obj o')) n η { W with heap := W.heap.setIfInBounds (η.blk b) (rO η o') } := by
  have hlt := h.lt_of_live (b := b) (by rw [hb]; trivial)
  refine h.turn hm hlt h0 (by rw [hb]; trivial) _ ⟨rfl, rfl, rfl, by simp⟩ (fun k hk => ?_) ⟨hw, hn, ?_⟩
  · simp [Array.getElem?_setIfInBounds_ne (Ne.symm hk)]
  · simp [h.lt b hlt]

/-- Keys that are numbers, texts, truths. -/
def plainKey (P : Program) (t : TypeId) (k : Value) : Option TypeDesc :=
  match P.underlying t, k with
  | some (.int x), .int y _ => if x = y then some (.int x) else none
  | some .string, .string s => if (s == s) = true then some .string else none
  | some .bool, .bool _ => some .bool
  | _, _ => none
theorem plainKey_check {t : TypeId} {k : Value} {d : TypeDesc} (h : plainKey P t k = some d) (m : Nat) (e : Bool) (W : World) : (Instr.checkKey e (m + 1) t k).run P W = .ok () W := by
  unfold plainKey at h
  split at h
  · rename_i x y i hu
    simp only [Instr.checkKey, Sem.run_bind, run_underlying hu, Result.andThen_ok, Sem.run_pure]
  · rename_i s hu
    simp only [Instr.checkKey, Sem.run_bind, run_underlying hu, Result.andThen_ok, Sem.run_pure]
  · rename_i s hu
    simp only [Instr.checkKey, Sem.run_bind, run_underlying hu, Result.andThen_ok, Sem.run_pure]
  · simp at h
theorem plainKey_spec {t : TypeId} {k : Value} {d : TypeDesc} (h : plainKey P t k = some d) :
    P.underlying t = some d ∧ (∀ η, rV η k = k) ∧ (∀ e W, (Instr.checkKey e 10000 t k).run P W = .ok () W) ∧ Instr.sameNow d k k = some true ∧ Instr.sameBits 10000 k k = true := by
  have hc := fun e W => plainKey_check h 9999 e W
  unfold plainKey at h
  split at h
  · rename_i x y i hu
    split at h
    · rename_i hxy
      simp only [Option.some.injEq] at h; subst h; subst hxy
      exact ⟨hu, fun η => by simp, hc, by simp [Instr.sameNow], by simp [Instr.sameBits]⟩
    · simp at h
  · rename_i s hu
    split at h
    · rename_i hs
      simp only [Option.some.injEq] at h; subst h
      exact ⟨hu, fun η => by simp, hc, by simp [Instr.sameNow, hs], by simp [Instr.sameBits, hs]⟩
    · simp at h
  · rename_i s hu
    simp only [Option.some.injEq] at h; subst h
    exact ⟨hu, fun η => by simp, hc, by simp [Instr.sameNow], by simp [Instr.sameBits]⟩
  · simp at h
theorem sameNow_r (η : Env) (d : TypeDesc) (k v : Value) : Instr.sameNow d k (rV η v) = Instr.sameNow d k v := by
  cases v with
  | pointer a => cases a <;> cases d <;> cases k <;> simp [Instr.sameNow]
  | slice a => cases a <;> cases d <;> cases k <;> simp [Instr.sameNow]
  | map r => cases r <;> cases d <;> cases k <;> simp [Instr.sameNow]
  | int => simp only [rV_int]
  | bool => simp only [rV_bool]
  | string => simp only [rV_string]
  | _ => cases d <;> cases k <;> simp [Instr.sameNow]
theorem findNow_r (η : Env) (d : TypeDesc) (k : Value) : ∀ (es : List MapEntry) (i : Nat), Instr.findNow d k (es.map (rE η)) i = (Instr.findNow d k es i).map (·.map fun p => (p.1, rV η p.2))
  | [], i => rfl
  | e :: es, i => by
    simp only [List.map_cons, Instr.findNow, rE, sameNow_r]
    cases Instr.sameNow d k e.key with
    | none => rfl
    | some b =>
      cases b with
      | false => exact findNow_r η d k es (i + 1)
      | true => rfl
theorem findKey_sound {t : TypeId} {k : Value} {d : TypeDesc} {es : List MapEntry} {r : Option (Nat × Value)} (h : P.underlying t = some d) (hf : Instr.findNow d k es 0 = some r) (W : World) :
    (Instr.findKey t k (es.map (rE η))).run P W = .ok (r.map fun p => (p.1, rV η p.2)) W := by
  simp only [Instr.findKey, Sem.run_bind, run_underlying h, Result.andThen_ok, findNow_r, hf, Option.map_some, Sem.run_pure]
theorem findNow_mem {d : TypeDesc} {k : Value} : ∀ {es : List MapEntry} {i j : Nat} {v : Value}, Instr.findNow d k es i = some (some (j, v)) → i ≤ j ∧ ∃ e, es[j - i]? = some e ∧ e.val = v ∧ Instr.sameNow d k e.key = some true
  | [], i, j, v, h => by simp [Instr.findNow] at h
  | e :: es, i, j, v, h => by
    simp only [Instr.findNow] at h
    cases hs : Instr.sameNow d k e.key with
    | none => rw [hs] at h; simp at h
    | some b =>
      rw [hs] at h
      cases b with
      | true => simp at h; obtain ⟨rfl, rfl⟩ := h; exact ⟨Nat.le_refl _, e, by simp, rfl, hs⟩
      | false =>
        obtain ⟨h1, e', h2, h3⟩ := findNow_mem (i := i + 1) h
        refine ⟨by omega, e', ?_, h3⟩
        rw [show j - i = (j - (i + 1)) + 1 by omega, List.getElem?_cons_succ]; exact h2

def evLookup (P : Program) (n0 : Nat) (H : Tr) (t : TypeId) (x k : Value) (ok : Bool) : Option Value :=
  match P.underlying t with
  | some (.map kt et) => match plainKey P kt k with
    | some d => match (match x with
        | .map none => some #[]
        | .map (some r) => match H.get r with
          | .obj (.map es _) => some es
          | _ => none
        | _ => none : Option (Array MapEntry)) with
      | some es => match Instr.findNow d k es.toList 0 with
        | some (some (_, v)) => some (if ok then .tuple #[v, .bool true] else v)
        | some none => match zeroIn P n0 et with
          | some z => some (if ok then .tuple #[z, .bool false] else z)
          | none => none
        | none => none
      | none => none
    | none => none
  | _ => none
theorem lookup_sound (h : Inq P n0 H n η W) {t : TypeId} {x k v : Value} {ok : Bool} (he : evLookup P n0 H t x k ok = some v) :
    Wf n v ∧ (Instr.lookup t (rV η x) (rV η k) ok).run P W = .ok (rV η v) W := by
  unfold evLookup at he
  split at he
  case h_2 => simp at he
  rename_i kt et hu
  split at he
  case h_2 => simp at he
  rename_i d hk
  obtain ⟨k1, k2, k3, -, -⟩ := plainKey_spec hk
  split at he
  case h_2 => simp at he
  rename_i es hes
  have hx : (∀ e ∈ es.toList, WfE n e) ∧ ((rV η x = .map none ∧ es = #[]) ∨ ∃ r c, rV η x = .map (some r) ∧ (getObj r).run P W = .ok (.map (es.map (rE η)) c) W) := by
    split at hes
    · simp only [Option.some.injEq] at hes; subst hes
      exact ⟨by simp, .inl ⟨by simp, rfl⟩⟩
    · rename_i r
      split at hes
      · rename_i es' c hb
        simp only [Option.some.injEq] at hes; subst hes
        obtain ⟨o1, o2, o3⟩ := h.obj hb
        exact ⟨WfO.map_iff.1 o1, .inr ⟨η.blk r, c, by simp, by rw [← rO_map]; exact run_getObj o3 o2⟩⟩
      · simp at hes
    · simp at hes
  obtain ⟨hw, hx⟩ := hx
  have key : ∀ r, Instr.findNow d k es.toList 0 = some r →
      (Instr.lookup t (rV η x) (rV η k) ok).run P W = (match r with
        | some (_, v) => .ok (if ok then .tuple #[rV η v, .bool true] else rV η v) W
        | none => ((zeroValue et).run P W).andThen fun z W => .ok (if ok then .tuple #[z, .bool false] else z) W) := by
    intro r hf
    have hfk := fun W => findKey_sound (P := P) (η := η) k1 hf W
    unfold Instr.lookup
    rcases hx with ⟨e1, rfl⟩ | ⟨r', c, e1, e2⟩
    · have hfk0 := hfk
      simp only [List.map_nil, Array.toList_empty] at hfk0
      rw [e1]
      simp only [Sem.run_bind, run_underlying hu, Result.andThen_ok, Sem.run_pure, k2, k3, Array.toList_empty, hfk0]
      cases r with
      | none => simp only [Option.map_none, Sem.run_bind, Sem.run_pure]; cases (zeroValue et).run P W <;> simp
      | some p => simp
    · rw [e1]
      simp only [Sem.run_bind, run_underlying hu, Result.andThen_ok, Sem.run_pure, e2, k2, k3, Array.toList_map, hfk]
      cases r with
      | none => simp only [Option.map_none, Sem.run_bind, Sem.run_pure]; cases (zeroValue et).run P W <;> simp
      | some p => simp
  split at he
  · rename_i j u hf
    simp only [Option.some.injEq] at he; subst he
    obtain ⟨-, e, e1, e2, -⟩ := findNow_mem hf
    have hwu : Wf n u := by rw [← e2]; exact (hw e (List.mem_of_getElem? e1)).2
    rw [key _ hf]
    cases ok with
    | true => exact ⟨WfL.tuple.2 (fun v hv => by
        simp at hv
        rcases hv with rfl | rfl
        · exact hwu
        · exact Wf.bool _ _), by simp⟩
    | false => exact ⟨hwu, by simp⟩
  · rename_i hf
    split at he
    · rename_i z hz
      obtain ⟨z1, z2, z3⟩ := zeroIn_spec h hz
      simp only [Option.some.injEq] at he; subst he
      rw [key _ hf]
      cases ok with
      | true => exact ⟨WfL.tuple.2 (fun v hv => by
        simp at hv
        rcases hv with rfl | rfl
        · exact z3 n (Nat.le_refl n)
        · exact Wf.bool _ _), by simp [z1, z2]⟩
      | false => exact ⟨z3 n (Nat.le_refl n), by simp [z1, z2]⟩
    · simp at he
  · simp at he

theorem sameNow_fixed {d : TypeDesc} {k e : Value} {b : Bool} (h : Instr.sameNow d k e = some b) (η : Env) : rV η e = e := by
  unfold Instr.sameNow at h
  split at h
  · simp
  · simp
  · simp
  · simp at h

def evMapUpdate (P : Program) (n0 : Nat) (H : Tr) (n : Nat) (t : TypeId) (m k v : Value) : Option Res :=
  match P.underlying t, m with
  | some (.map kt _), .map (some r) => match plainKey P kt k, H.get r with
    | some d, .obj (.map es c) =>
      if n0 ≤ r ∧ n < most then
        match Instr.findNow d k es.toList 0 with
        | some (some (i, _)) => match es.toList[i]? with
          | some e => if Instr.sameBits 10000 e.key k then some ⟨.skip, Tr.set depth H r (.obj (.map (es.modify i fun e => { e with key := k, val := v }) c)), n⟩ else none
          | none => none
        | some none => some ⟨.skip, Tr.set depth H r (.obj (.map (es.push { key := k, val := v, born := c }) (c + 1))), n⟩
        | none => none
      else none
    | _, _ => none
  | _, _ => none
theorem modify_wf {es : Array MapEntry} {i : Nat} {f : MapEntry → MapEntry} (h : ∀ e ∈ es.toList, WfE n e) (hf : ∀ e, WfE n e → WfE n (f e)) : ∀ e ∈ (es.modify i f).toList, WfE n e := by
  intro e he
  rw [Array.toList_modify] at he
  obtain ⟨j, hj⟩ := List.getElem?_of_mem he
  rw [List.getElem?_modify] at hj
  cases hx : es.toList[j]? with
  | none => rw [hx] at hj; simp at hj
  | some u =>
    rw [hx] at hj; simp at hj
    have hu := h u (List.mem_of_getElem? hx)
    split at hj
    · rw [← hj]; exact hf u hu
    · rw [← hj]; exact hu
theorem modify_map {es : Array MapEntry} {i : Nat} {f g : MapEntry → MapEntry} (hf : ∀ e, rE η (f e) = g (rE η e)) : (es.modify i f).map (rE η) = (es.map (rE η)).modify i g := by
  apply Array.ext'
  rw [Array.toList_map, Array.toList_modify, Array.toList_modify, Array.toList_map]
  apply List.ext_getElem?
  intro j
  simp only [List.getElem?_map, List.getElem?_modify]
  cases es.toList[j]? with
  | none => simp
  | some u =>
    by_cases hij : i = j
    · simp [hij, hf]
    · simp [hij]
theorem mapUpdate_sound (h : Inv P n0 w0 H n η W) {t : TypeId} {m k v : Value} {r : Res} (hv : Wf n v) (hk : Wf n k) (he : evMapUpdate P n0 H n t m k v = some r) :
    Runs P n0 w0 η n W (do Instr.mapUpdate t (rV η m) (rV η k) (rV η v); pure .skip) r := by
  unfold evMapUpdate at he
  split at he
  case h_2 => simp at he
  rename_i kt et b hu
  split at he
  case h_2 => simp at he
  rename_i d es c hpk hb
  obtain ⟨k1, k2, k3, -, -⟩ := plainKey_spec hpk
  obtain ⟨o1, o2, o3⟩ := h.obj hb
  have hw := WfO.map_iff.1 o1
  have hget := run_getObj (P := P) o3 o2
  rw [rO_map] at hget o3
  split at he
  case isFalse => simp at he
  rename_i hc
  obtain ⟨hc0, hcm⟩ := hc
  split at he
  · rename_i i u hf
    split at he
    case h_2 => simp at he
    rename_i e hei
    split at he
    case isFalse => simp at he
    rename_i hsb
    simp only [Option.some.injEq] at he; subst he
    have hfk := findKey_sound (P := P) (η := η) k1 hf W
    obtain ⟨-, e', e1, e2, e3⟩ := findNow_mem hf
    rw [Nat.sub_zero, hei] at e1
    simp only [Option.some.injEq] at e1; subst e1
    have hkey : ((es.map (rE η))[i]?).map (·.key) = some e.key := by
      rw [Array.getElem?_map, ← Array.getElem?_toList, hei]
      simp [rE, sameNow_fixed e3 η]
    have hset := run_setObj (P := P) (o' := rO η (.map (es.modify i fun e => { e with key := k, val := v }) c)) o3 trivial
    refine ⟨η, _, .refl _ _, Nat.le_refl _, h.setObj hcm hb hc0 (WfO.map_iff.2 (modify_wf hw fun _ _ => ⟨hk, hv⟩)) trivial, ?_⟩
    simp only [Instr.mapUpdate, Sem.run_bind, run_underlying hu, Result.andThen_ok, rV_msome, hget, k2, k3, Array.toList_map, hfk, Option.map_some, hkey, Option.getD_some, Instr.keyThatStays, hsb, if_true, Sem.run_pure]
    rw [rO_map, modify_map (g := fun e => { e with key := k, val := rV η v }) (fun e => by simp [rE, k2])] at hset ⊢
    simp only [hset, Result.andThen_ok]
  · rename_i hf
    simp only [Option.some.injEq] at he; subst he
    have hfk := findKey_sound (P := P) (η := η) k1 hf W
    have hset := run_setObj (P := P) (o' := rO η (.map (es.push { key := k, val := v, born := c }) (c + 1))) o3 trivial
    refine ⟨η, _, .refl _ _, Nat.le_refl _, h.setObj hcm hb hc0 (WfO.map_iff.2 (fun e he => ?_)) trivial, ?_⟩
    · simp at he
      rcases he with he | rfl
      · exact hw e (by simpa using he)
      · exact ⟨hk, hv⟩
    simp only [Instr.mapUpdate, Sem.run_bind, run_underlying hu, Result.andThen_ok, rV_msome, hget, k2, k3, Array.toList_map, hfk, Option.map_none, Sem.run_pure]
    rw [rO_map, Array.map_push] at hset ⊢
    simp only [rE, k2] at hset ⊢
    simp only [hset, Result.andThen_ok]
  · simp at he

def evDelete (P : Program) (n0 : Nat) (H : Tr) (n : Nat) (ts : List TypeId) (args : List Value) : Option Res :=
  match ts, args with
  | t :: _, [.map (some r), k] => match P.underlying t, H.get r with
    | some (.map kt _), .obj (.map es c) => match plainKey P kt k with
      | some d => if n0 ≤ r ∧ n < most then
          match Instr.findNow d k es.toList 0 with
          | some (some (i, _)) => some ⟨.val (.tuple #[]), Tr.set depth H r (.obj (.map (es.eraseIdxIfInBounds i) c)), n⟩
          | some none => some ⟨.val (.tuple #[]), Tr.set depth H r (.obj (.map es c)), n⟩
          | none => none
        else none
      | none => none
    | _, _ => none
  | _, _ => none
theorem delete_sound (h : Inv P n0 w0 H n η W) {ts : List TypeId} {ty : TypeId} {args : List Value} {r : Res} (he : evDelete P n0 H n ts args = some r) :
    Runs P n0 w0 η n W (do pure (.value (← Builtin.delete_ ts.toArray ty (args.map (rV η)).toArray))) r := by
  unfold evDelete at he
  split at he
  case h_2 => simp at he
  rename_i t ts' b k
  split at he
  case h_2 => simp at he
  rename_i kt et es c hu hb
  split at he
  case h_2 => simp at he
  rename_i d hpk
  obtain ⟨k1, k2, k3, -, -⟩ := plainKey_spec hpk
  obtain ⟨o1, o2, o3⟩ := h.obj hb
  have hw := WfO.map_iff.1 o1
  have hget := run_getObj (P := P) o3 o2
  rw [rO_map] at hget o3
  split at he
  case isFalse => simp at he
  rename_i hc
  obtain ⟨hc0, hcm⟩ := hc
  split at he
  · rename_i i u hf
    simp only [Option.some.injEq] at he; subst he
    have hfk := findKey_sound (P := P) (η := η) k1 hf W
    have hset := run_setObj (P := P) (o' := rO η (.map (es.eraseIdxIfInBounds i) c)) o3 trivial
    refine ⟨η, _, .refl _ _, Nat.le_refl _, h.setObj hcm hb hc0 (WfO.map_iff.2 (fun e he => hw e ?_)) trivial, WfL.tuple.2 (by intro v hv; simp at hv), ?_⟩
    · rw [Array.toList_eraseIdxIfInBounds] at he; exact List.mem_of_mem_eraseIdx he
    have hmap : (es.eraseIdxIfInBounds i).map (rE η) = (es.map (rE η)).eraseIdxIfInBounds i := by
      apply Array.ext'
      apply List.ext_getElem?
      intro j
      simp only [Array.toList_map, Array.toList_eraseIdxIfInBounds, List.getElem?_map, List.getElem?_eraseIdx]
      split <;> rfl
    rw [rO_map, hmap] at hset ⊢
    simp only [Builtin.delete_, List.getElem?_toArray, List.getElem?_cons_zero, List.getElem?_cons_succ, List.map_cons, List.map_nil, Sem.run_bind, run_underlying hu, Result.andThen_ok, rV_msome, hget, k2, k3, Array.toList_map, hfk, Option.map_some, hset, Sem.run_pure, rV_tuple]
    simp
  · rename_i hf
    simp only [Option.some.injEq] at he; subst he
    have hfk := findKey_sound (P := P) (η := η) k1 hf W
    have hset := run_setObj (P := P) (o' := rO η (.map es c)) o3 trivial
    refine ⟨η, _, .refl _ _, Nat.le_refl _, h.setObj hcm hb hc0 o1 trivial, WfL.tuple.2 (by intro v hv; simp at hv), ?_⟩
    rw [rO_map] at hset ⊢
    simp only [Builtin.delete_, List.getElem?_toArray, List.getElem?_cons_zero, List.getElem?_cons_succ, List.map_cons, List.map_nil, Sem.run_bind, run_underlying hu, Result.andThen_ok, rV_msome, hget, k2, k3, Array.toList_map, hfk, Option.map_none, hset, Sem.run_pure, rV_tuple]
    simp
  · simp at he
end
end Go.Proofs.Ytoanbjnhoggpjaa.Ev
