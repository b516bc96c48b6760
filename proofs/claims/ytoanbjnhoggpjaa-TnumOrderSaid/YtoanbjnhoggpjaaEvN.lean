/-
  A closed call evaluated: maps made and gone through, lengths, copy.
-/
import Derived.Test.YtoanbjnhoggpjaaEvM
namespace Go.Proofs.Ytoanbjnhoggpjaa.Ev
set_option linter.unusedSimpArgs false
set_option linter.unusedVariables false
set_option maxRecDepth 100000
open Go Go.RowKit

section
variable {P : Program} {n0 : Nat} {w0 : World} {H : Tr} {n : Nat} {η : Env} {W : World}

def newObjC (H : Tr) (n : Nat) (o : Obj) (v : Value) : Option Res :=
  if n < most then some ⟨.val v, Tr.set depth H n (.obj o), n + 1⟩ else none
theorem newObj_sound (h : Inv P n0 w0 H n η W) {o : Obj} {v : Value} {r : Res} (hw : WfO n o) (hn : notCells (rO η o)) (he : newObjC H n o v = some r) (hv : Wf (n + 1) v) (s : Sem Next)
    (hs : ∀ η' : Env, η'.blk n = W.heap.size → Agree n η η' → s.run P W = .ok (.value (rV η' v)) (W.alloc (rO η o))) : Runs P n0 w0 η n W s r := by
  unfold newObjC at he
  split at he
  · rename_i hm
    simp only [Option.some.injEq] at he; subst he
    have ha := η.put_agree n W.heap.size 0
    exact ⟨_, _, ha, Nat.le_succ n, h.allocObj hm hw hn, hv, hs _ (Env.put_blk _ _ _ _) ha⟩
  · simp at he
theorem run_newObj (o : Obj) (w : World) : (newObj o).run P w = .ok w.heap.size (w.alloc o) := rfl
theorem rO_nil (η : Env) (c : Nat) : rO η (.map #[] c) = .map #[] c := by simp [rO]
def evMakeMap (P : Program) (H : Tr) (n : Nat) (t : TypeId) (r : Option Value) : Option Res :=
  match r with
  | none => newObjC H n (.map #[] 0) (.map (some n))
  | some (.int _ _) => match P.underlying t with
    | some (.map _ _) => newObjC H n (.map #[] 0) (.map (some n))
    | _ => none
  | _ => none
theorem makeMap_sound (h : Inv P n0 w0 H n η W) {t : TypeId} {x : Option Value} {r : Res} (he : evMakeMap P H n t x = some r) :
    Runs P n0 w0 η n W (do pure (.value (← Instr.makeMap t (x.map (rV η))))) r := by
  unfold evMakeMap at he
  split at he
  · refine newObj_sound h (WfO.map_iff.2 (by simp)) trivial he (Wf.map (Nat.lt_succ_self n)) _ fun η' hb ha => ?_
    rw [rV_msome, hb, rO_nil]
    simp only [Instr.makeMap, Option.map_none, Sem.run_bind, run_newObj, Result.andThen_ok, Sem.run_pure]
  · split at he
    · rename_i kt et hu
      refine newObj_sound h (WfO.map_iff.2 (by simp)) trivial he (Wf.map (Nat.lt_succ_self n)) _ fun η' hb ha => ?_
      rw [rV_msome, hb, rO_nil]
      simp only [Instr.makeMap, Option.map_some, rV_int, Sem.run_bind, run_underlying hu, Result.andThen_ok, asInt, asIntOf, run_newObj, Sem.run_pure]
    · simp at he
  · simp at he
def evRange (P : Program) (H : Tr) (n : Nat) (t : TypeId) (x : Value) : Option Res :=
  match P.underlying t, x with
  | some .string, .string s => newObjC H n (.stringIter s 0) (.pointer (some ⟨n, 0, none⟩))
  | some (.map _ _), .map none => newObjC H n (.mapIter none 0 #[] 0) (.pointer (some ⟨n, 0, none⟩))
  | some (.map _ _), .map (some m) => match H.get m with
    | .obj (.map _ c) => newObjC H n (.mapIter (some m) c #[] c) (.pointer (some ⟨n, 0, none⟩))
    | _ => none
  | _, _ => none
theorem range_sound (h : Inv P n0 w0 H n η W) {t : TypeId} {x : Value} {r : Res} (he : evRange P H n t x = some r) :
    Runs P n0 w0 η n W (do pure (.value (← Instr.range t (rV η x)))) r := by
  unfold evRange at he
  split at he
  · rename_i s hu
    refine newObj_sound h (o := .stringIter s 0) (fun _ _ _ => rfl) trivial he (Wf.ptr (Nat.lt_succ_self n)) _ fun η' hb ha => ?_
    rw [rV_psome, rA_mk, hb]
    simp only [Instr.range, rV_string, Sem.run_bind, run_underlying hu, Result.andThen_ok, Sem.run_pure]
    rfl
  · rename_i kt et hu
    refine newObj_sound h (o := .mapIter none 0 #[] 0) (fun _ _ _ => rfl) trivial he (Wf.ptr (Nat.lt_succ_self n)) _ fun η' hb ha => ?_
    rw [rV_psome, rA_mk, hb]
    simp only [Instr.range, rV_mnone, Sem.run_bind, run_underlying hu, Result.andThen_ok, Sem.run_pure]
    rfl
  · rename_i kt et m hu
    split at he
    · rename_i es c hb'
      obtain ⟨o1, o2, o3⟩ := h.obj hb'
      have hget := run_getObj (P := P) o3 o2
      rw [rO_map] at hget
      have hlt := h.lt_of_live (b := m) (by rw [hb']; trivial)
      refine newObj_sound h (o := .mapIter (some m) c #[] c) (fun η η' ha => by simp [rO, (ha m hlt).1]) trivial he (Wf.ptr (Nat.lt_succ_self n)) _ fun η' hb ha => ?_
      rw [rV_psome, rA_mk, hb]
      simp only [Instr.range, rV_msome, Sem.run_bind, run_underlying hu, Result.andThen_ok, Sem.run_pure, hget]
      rfl
    · simp at he
  · simp at he

/-- The entries that may come next. -/
def cands (es : Array MapEntry) (since : Nat) (seen : Array Nat) : Array (Option MapEntry) :=
  let left := es.filter fun e => !seen.contains e.born
  let old := left.filter (·.born < since)
  let new := left.filter (·.born ≥ since)
  (if old.isEmpty then #[none] else #[]) ++ (old ++ new).map some
theorem filter_r (η : Env) (es : Array MapEntry) (p : Nat → Bool) : (es.map (rE η)).filter (fun e => p e.born) = (es.filter fun e => p e.born).map (rE η) := by
  rw [Array.filter_map]; rfl
theorem cands_r (η : Env) (es : Array MapEntry) (since : Nat) (seen : Array Nat) : cands (es.map (rE η)) since seen = (cands es since seen).map (·.map (rE η)) := by
  have h1 := filter_r η es (fun b => !seen.contains b)
  have h2 := filter_r η (es.filter fun e => !seen.contains e.born) (fun b => decide (b < since))
  have h3 := filter_r η (es.filter fun e => !seen.contains e.born) (fun b => decide (b ≥ since))
  simp only [cands, h1, h2, h3]
  by_cases he : (Array.filter (fun e => decide (e.born < since)) (Array.filter (fun e => !seen.contains e.born) es)).isEmpty = true
  · have : ((Array.filter (fun e => decide (e.born < since)) (Array.filter (fun e => !seen.contains e.born) es)).map (rE η)).isEmpty = true := by simpa using he
    rw [if_pos he, if_pos this]
    simp [Array.map_append, Function.comp_def]
  · have : ¬ ((Array.filter (fun e => decide (e.born < since)) (Array.filter (fun e => !seen.contains e.born) es)).map (rE η)).isEmpty = true := by simpa using he
    rw [if_neg he, if_neg this]
    simp [Array.map_append, Function.comp_def]
def evNext (H : Tr) (n : Nat) (n0 : Nat) (it : Value) (isS : Bool) : Option (List Res) :=
  match it with
  | .pointer (some ⟨r, 0, none⟩) => match H.get r, isS with
    | .obj (.stringIter s pos), true =>
      if n0 ≤ r ∧ n < most then
        if pos < s.size then
          some [⟨.val (.tuple #[.bool true, goInt pos, .int .i32 (Utf8.decode s pos).1]), Tr.set depth H r (.obj (.stringIter s (pos + (Utf8.decode s pos).2))), n⟩]
        else some [⟨.val (.tuple #[.bool false]), H, n⟩]
      else none
    | .obj (.mapIter none _ _ _), false => some [⟨.val (.tuple #[.bool false]), H, n⟩]
    | .obj (.mapIter (some m) since seen last), false => match H.get m with
      | .obj (.map es clock) =>
        if n0 ≤ r ∧ n < most ∧ (!seen.isEmpty && !es.isEmpty && es.all (·.born ≥ last)) = false ∧ (cands es since seen).size ≠ 0 then
          some ((cands es since seen).toList.map fun
            | some e => ⟨.val (.tuple #[.bool true, e.key, e.val]), Tr.set depth H r (.obj (.mapIter (some m) since (seen.push e.born) clock)), n⟩
            | none => ⟨.val (.tuple #[.bool false]), H, n⟩)
        else none
      | _ => none
    | _, _ => none
  | _ => none
theorem mem_cands {es : Array MapEntry} {since : Nat} {seen : Array Nat} {e : MapEntry} (h : some e ∈ (cands es since seen).toList) : e ∈ es.toList := by
  simp only [cands, Array.toList_append, List.mem_append, Array.toList_map, List.mem_map, Array.toList_filter, List.mem_filter, Option.some.injEq] at h
  rcases h with h | ⟨a, h, rfl⟩
  · split at h <;> simp at h
  · rcases h with h | h
    · exact h.1.1
    · exact h.1.1
theorem next_sound (h : Inv P n0 w0 H n η W) {it : Value} {isS : Bool} {ty : TypeId} {rs : List Res} (he : evNext H n n0 it isS = some rs) :
    ∃ r ∈ rs, Runs P n0 w0 η n W (do pure (.value (← Instr.next (rV η it) isS ty))) r := by
  unfold evNext at he
  split at he
  case h_2 => simp at he
  rename_i r
  split at he
  · rename_i s pos hb
    obtain ⟨o1, o2, o3⟩ := h.obj hb
    have hget := run_getObj (P := P) o3 o2
    have hO : rO η (.stringIter s pos) = .stringIter s pos := rfl
    rw [hO] at hget o3
    split at he
    case isFalse => simp at he
    rename_i hc
    split at he
    · rename_i hpos
      simp only [Option.some.injEq] at he; subst he
      refine ⟨_, List.mem_singleton_self _, η, _, .refl _ _, Nat.le_refl _, h.setObj hc.2 hb hc.1 (o' := .stringIter s (pos + (Utf8.decode s pos).2)) (fun _ _ _ => rfl) trivial, ?_, ?_⟩
      · exact WfL.tuple.2 (fun v hv => by
          simp at hv
          rcases hv with rfl | rfl | rfl
          · exact Wf.bool _ _
          · exact Wf.int _ _ _
          · exact Wf.int _ _ _)
      · have hset := run_setObj (P := P) (o' := .stringIter s (pos + (Utf8.decode s pos).2)) o3 trivial
        simp only [Instr.next, rV_psome, rA_mk, Sem.run_bind, hget, Result.andThen_ok, hpos, if_true, hset, Sem.run_pure, rV_tuple]
        simp [goInt, rO]
    · rename_i hpos
      simp only [Option.some.injEq] at he; subst he
      refine ⟨_, List.mem_singleton_self _, Runs.same h (WfL.tuple.2 fun v hv => by simp at hv; subst hv; exact Wf.bool _ _) ?_⟩
      simp only [Instr.next, rV_psome, rA_mk, Sem.run_bind, hget, Result.andThen_ok, hpos, if_false, Sem.run_pure, rV_tuple]
      simp
  · rename_i a b c hb
    simp only [Option.some.injEq] at he; subst he
    obtain ⟨o1, o2, o3⟩ := h.obj hb
    have hget := run_getObj (P := P) o3 o2
    refine ⟨_, List.mem_singleton_self _, Runs.same h (WfL.tuple.2 fun v hv => by simp at hv; subst hv; exact Wf.bool _ _) ?_⟩
    simp only [rO] at hget
    simp only [Instr.next, rV_psome, rA_mk, Sem.run_bind, hget, Result.andThen_ok, Sem.run_pure, rV_tuple]
    simp
  · rename_i m since seen last hb
    split at he
    case h_2 => simp at he
    rename_i es clock hm
    split at he
    case isFalse => simp at he
    rename_i hc
    obtain ⟨c1, c2, c3, c4⟩ := hc
    simp only [Option.some.injEq] at he; subst he
    obtain ⟨o1, o2, o3⟩ := h.obj hb
    have hget := run_getObj (P := P) o3 o2
    have hO : rO η (.mapIter (some m) since seen last) = .mapIter (some (η.blk m)) since seen last := rfl
    rw [hO] at hget o3
    obtain ⟨p1, p2, p3⟩ := h.obj hm
    have hgm := run_getObj (P := P) p3 p2
    rw [rO_map] at hgm
    have hwm := WfO.map_iff.1 p1
    have hltm := h.lt_of_live (b := m) (by rw [hm]; trivial)
    have hall : (es.map (rE η)).all (fun e => decide (e.born ≥ last)) = es.all (fun e => decide (e.born ≥ last)) := by
      rw [Array.all_map]; rfl
    have hcond : (!seen.isEmpty && !(es.map (rE η)).isEmpty && (es.map (rE η)).all (fun e => decide (e.born ≥ last))) = false := by
      rw [hall]
      have : (es.map (rE η)).isEmpty = es.isEmpty := by
        show decide ((es.map (rE η)).size = 0) = decide (es.size = 0)
        rw [Array.size_map]
      rw [this]; exact c3
    have hcr := cands_r η es since seen
    have hsize : (cands (es.map (rE η)) since seen).size = (cands es since seen).size := by rw [hcr]; simp
    -- the draw
    have hch : ∃ k W1, k < (cands es since seen).size ∧ (W1 = W ∨ W1 = W.drew) ∧ (choose (.mapNext (cands (es.map (rE η)) since seen).size)).run P W = .ok k W1 := by
      rw [hsize]
      by_cases h1 : (cands es since seen).size ≤ 1
      · exact ⟨0, W, by omega, .inl rfl, by simp [choose, Sem.run, Question.forced, h1]⟩
      · refine ⟨W.tape W.drawn (.mapNext (cands es since seen).size) % (cands es since seen).size, W.drew, Nat.mod_lt _ (by omega), .inr rfl, ?_⟩
        simp [choose, Sem.run, Question.forced, h1, Question.cut]
    obtain ⟨k, W1, hk, hW1, hch⟩ := hch
    have h1 : Inv P n0 w0 H n η W1 := by
      rcases hW1 with rfl | rfl
      · exact h
      · exact h.drew
    have o3' : W1.heap[η.blk r]? = some (.mapIter (some (η.blk m)) since seen last) := by
      rcases hW1 with rfl | rfl <;> exact o3
    have hrun : ∀ {β : Type} (K : Value → Sem β), (Instr.next (rV η (.pointer (some ⟨r, 0, none⟩))) false ty >>= K).run P W =
        ((match (cands (es.map (rE η)) since seen)[k]? with
          | some (some e) => do
            setObj (η.blk r) (.mapIter (some (η.blk m)) since (seen.push e.born) clock)
            pure (.tuple #[.bool true, e.key, e.val])
          | some none => pure (.tuple #[.bool false])
          | none => stuck "Next: no such candidate" : Sem Value) >>= K).run P W1 := by
      intro β K
      unfold cands at hch ⊢
      dsimp only at hch ⊢
      simp only [Instr.next, rV_psome, rA_mk, Sem.run_bind, hget, Result.andThen_ok, hgm, hcond, Bool.false_eq_true, if_false, hch]
      rfl
    have hkc : (cands es since seen)[k]? = some ((cands es since seen)[k]) := Array.getElem?_eq_getElem hk
    have hkr : (cands (es.map (rE η)) since seen)[k]? = some (((cands es since seen)[k]).map (rE η)) := by rw [hcr, Array.getElem?_map, hkc]; rfl
    have hmem : (cands es since seen)[k] ∈ (cands es since seen).toList := by simp
    cases hcand : (cands es since seen)[k] with
    | none =>
      rw [hcand] at hkr hmem
      refine ⟨_, List.mem_map.2 ⟨none, hmem, rfl⟩, η, W1, .refl _ _, Nat.le_refl _, h1, WfL.tuple.2 (fun v hv => by simp at hv; subst hv; exact Wf.bool _ _), ?_⟩
      rw [hrun, hkr]
      simp
    | some e =>
      rw [hcand] at hkr hmem
      have hwe := hwm e (mem_cands hmem)
      have hset := run_setObj (P := P) (o' := .mapIter (some (η.blk m)) since (seen.push e.born) clock) o3' trivial
      refine ⟨_, List.mem_map.2 ⟨some e, hmem, rfl⟩, η, _, .refl _ _, Nat.le_refl _, h1.setObj c2 hb c1 (o' := .mapIter (some m) since (seen.push e.born) clock) (fun η η' ha => by simp [rO, (ha m hltm).1]) trivial, ?_, ?_⟩
      · exact WfL.tuple.2 (fun v hv => by
          simp at hv
          rcases hv with rfl | rfl | rfl
          · exact Wf.bool _ _
          · exact hwe.1
          · exact hwe.2)
      · rw [hrun, hkr]
        simp only [Option.map_some, Sem.run_bind, rE, hset, Result.andThen_ok, Sem.run_pure, rV_tuple]
        simp [rO]
  · simp at he

def evEntry (H : Tr) (it : Value) : Option Value :=
  match it with
  | .pointer (some ⟨r, 0, none⟩) => match H.get r with
    | .obj (.mapIter (some m) _ seen stepped) => match seen.back?, H.get m with
      | some stamp, .obj (.map es clock) => if clock = stepped then match es.find? (·.born == stamp) with
          | some e => some (.tuple #[e.key, e.val])
          | none => none
        else none
      | _, _ => none
    | _ => none
  | _ => none
theorem entry_sound (h : Inq P n0 H n η W) {it v : Value} (he : evEntry H it = some v) : Wf n v ∧ (Instr.entry (rV η it)).run P W = .ok (rV η v) W := by
  unfold evEntry at he
  split at he
  case h_2 => simp at he
  rename_i r
  split at he
  case h_2 => simp at he
  rename_i m since seen stepped hb
  split at he
  case h_2 => simp at he
  rename_i stamp es clock hs hm
  split at he
  case isFalse => simp at he
  rename_i hc
  split at he
  case h_2 => simp at he
  rename_i e hf
  simp only [Option.some.injEq] at he; subst he
  obtain ⟨o1, o2, o3⟩ := h.obj hb
  have hget := run_getObj (P := P) o3 o2
  have hO : rO η (.mapIter (some m) since seen stepped) = .mapIter (some (η.blk m)) since seen stepped := rfl
  rw [hO] at hget
  obtain ⟨p1, p2, p3⟩ := h.obj hm
  have hgm := run_getObj (P := P) p3 p2
  rw [rO_map] at hgm
  have hwe := WfO.map_iff.1 p1 e (by simpa using Array.mem_of_find?_eq_some hf)
  have hfr : (es.map (rE η)).find? (·.born == stamp) = some (rE η e) := by
    rw [Array.find?_map]
    show (es.find? (fun e => e.born == stamp)).map (rE η) = _
    rw [hf]; rfl
  refine ⟨WfL.tuple.2 (fun u hu => by
    simp at hu
    rcases hu with rfl | rfl
    · exact hwe.1
    · exact hwe.2), ?_⟩
  have hne : (clock != stepped) = false := by simp [hc]
  simp only [Instr.entry, rV_psome, rA_mk, Sem.run_bind, hget, Result.andThen_ok, hs, hgm, hne, Bool.false_eq_true, if_false, hfr, Sem.run_pure, rV_tuple]
  simp [rE]

/-! ### Lengths -/
def evLenB (P : Program) (H : Tr) (ts : List TypeId) (args : List Value) : Option Value :=
  match ts, args with
  | t :: _, [x] => match P.underlying t, x with
    | some (.slice _), .slice _ k _ => some (goInt k)
    | some (.map _ _), .map (some r) => match H.get r with
      | .obj (.map es _) => some (goInt es.size)
      | _ => none
    | _, _ => none
  | _, _ => none
theorem lenB_sound (h : Inq P n0 H n η W) {ts : List TypeId} {ty : TypeId} {args : List Value} {v : Value} (he : evLenB P H ts args = some v) :
    Wf n v ∧ (Builtin.len_ ts.toArray ty (args.map (rV η)).toArray).run P W = .ok (rV η v) W := by
  unfold evLenB at he
  split at he
  case h_2 => simp at he
  rename_i t ts' x
  split at he
  · rename_i e a k c hu
    simp only [Option.some.injEq] at he; subst he
    refine ⟨Wf.int _ _ _, ?_⟩
    cases a <;> simp [Builtin.len_, run_underlying hu, goInt]
  · rename_i kt et r hu
    split at he
    · rename_i es c hb
      simp only [Option.some.injEq] at he; subst he
      obtain ⟨o1, o2, o3⟩ := h.obj hb
      have hget := run_getObj (P := P) o3 o2
      rw [rO_map] at hget
      refine ⟨Wf.int _ _ _, ?_⟩
      simp [Builtin.len_, run_underlying hu, goInt, hget]
    · simp at he
  · simp at he
def evCapB (P : Program) (ts : List TypeId) (args : List Value) : Option Value :=
  match ts, args with
  | t :: _, [.slice _ _ c] => match P.underlying t with
    | some (.slice _) => if c < 2 ^ 70 then some (goInt c) else none
    | _ => none
  | _, _ => none
theorem capB_sound {ts : List TypeId} {ty : TypeId} {args : List Value} {v : Value} (he : evCapB P ts args = some v) (W : World) :
    Wf n v ∧ (Builtin.cap_ ts.toArray ty (args.map (rV η)).toArray).run P W = .ok (rV η v) W := by
  unfold evCapB at he
  split at he
  case h_2 => simp at he
  rename_i t ts' a k c
  split at he
  · rename_i e hu
    split at he
    · rename_i hc
      simp only [Option.some.injEq] at he; subst he
      refine ⟨Wf.int _ _ _, ?_⟩
      cases a <;> simp [Builtin.cap_, run_underlying hu, goInt, rCap_lt hc]
    · simp at he
  · simp at he

/-! ### copy -/
def evCopy (P : Program) (n0 : Nat) (H : Tr) (n : Nat) (ts : List TypeId) (args : List Value) : Option Res :=
  match ts, args with
  | t :: _, [.slice base dLen dc, x] => match P.underlying t, evLen x with
    | some (.slice elem), some k => match sizeIn P elem with
      | some sz => match evFirst H sz (Nat.min k dLen) x, base with
        | some l, some ⟨b, o, none⟩ => match H.get b with
          | .cells cs e op => if decide (o + l.length ≤ cs.length) && decide (n0 ≤ b) && decide (n < most) && l.all isOne then
              some ⟨.val (goInt (Nat.min k dLen)), Tr.set depth H b (.cells (putCells cs o l) e op), n⟩ else none
          | _ => none
        | some l, none => some ⟨.val (goInt (Nat.min k dLen)), H, n⟩
        | _, _ => none
      | none => none
    | _, _ => none
  | _, _ => none
theorem copy_sound (h : Inv P n0 w0 H n η W) {ts : List TypeId} {ty : TypeId} {args : List Value} {r : Res} (he : evCopy P n0 H n ts args = some r) :
    Runs P n0 w0 η n W (do pure (.value (← Builtin.copy_ ts.toArray ty (args.map (rV η)).toArray))) r := by
  unfold evCopy at he
  split at he
  case h_2 => simp at he
  rename_i t ts' base dLen dc x
  split at he
  case h_2 => simp at he
  rename_i elem k hu hlen
  have hl := fun w => len_sound (P := P) (η := η) hlen w
  split at he
  case h_2 => simp at he
  rename_i sz hs
  split at he
  · rename_i l b o hf
    obtain ⟨wl, fl⟩ := first_sound h hf
    split at he
    case h_2 => simp at he
    rename_i cs e op hb
    split at he
    case isFalse => simp at he
    rename_i hc
    simp only [Bool.and_eq_true, decide_eq_true_eq, List.all_eq_true] at hc
    obtain ⟨⟨⟨c1, c2⟩, c3⟩, c4⟩ := hc
    simp only [Option.some.injEq] at he; subst he
    have hone : ∀ v ∈ l.map (rV η), v.oneCell' = true := fun v hv => by
      simp only [List.mem_map] at hv
      obtain ⟨u, hu', rfl⟩ := hv
      exact isOne_spec (c4 u hu') η
    have hth := h.there (k := (l.map (rV η)).length) hb (by rw [List.length_map]; exact c1)
    have hst := run_storeCells_cells (P := P) (η.blk b) o (l.map (rV η)) 0 W (fun j hj => by simpa using (hth j hj).1) (fun j hj => by simpa using (hth j hj).2) hone
    rw [Nat.add_zero] at hst
    refine ⟨η, _, .refl _ _, Nat.le_refl _, h.put c3 hb c2 c1 wl, Wf.int _ _ _, ?_⟩
    simp only [Builtin.copy_, List.getElem?_toArray, List.getElem?_cons_zero, List.getElem?_cons_succ, List.map_cons, List.map_nil, rV_ssome, rA_mk, Sem.run_bind, run_underlying hu, Result.andThen_ok, hl,
      run_sizeOf hs, fl, hst, Sem.run_pure, rV_int, goInt]
  · rename_i l hf
    obtain ⟨wl, fl⟩ := first_sound h hf
    simp only [Option.some.injEq] at he; subst he
    refine Runs.same h (Wf.int _ _ _) ?_
    simp only [Builtin.copy_, List.getElem?_toArray, List.getElem?_cons_zero, List.getElem?_cons_succ, List.map_cons, List.map_nil, rV_snone, Sem.run_bind, run_underlying hu, Result.andThen_ok, hl,
      run_sizeOf hs, fl, Sem.run_pure, rV_int, goInt]
  · simp at he
end
end Go.Proofs.Ytoanbjnhoggpjaa.Ev
