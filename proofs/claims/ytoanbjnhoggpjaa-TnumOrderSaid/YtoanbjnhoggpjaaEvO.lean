/-
  A closed call evaluated: the operations on memory, one by one.
-/
import Derived.Test.YtoanbjnhoggpjaaEvH
namespace Go.Proofs.Ytoanbjnhoggpjaa.Ev
set_option linter.unusedSimpArgs false
set_option linter.unusedVariables false
set_option maxRecDepth 100000
open Go Go.RowKit

inductive Out where
  | val (v : Value)
  | skip
  | enter (f : FuncId) (args : List Value)

/-- What an operation came to, and the memory behind it. -/
structure Res where
  out : Out
  H : Tr
  n : Nat

def Runs (P : Program) (n0 : Nat) (w0 : World) (η : Env) (n : Nat) (W : World) (s : Sem Next) (r : Res) : Prop :=
  ∃ η' W', Agree n η η' ∧ n ≤ r.n ∧ Inv P n0 w0 r.H r.n η' W' ∧
    match r.out with
    | .val v => Wf r.n v ∧ s.run P W = .ok (.value (rV η' v)) W'
    | .skip => s.run P W = .ok .skip W'
    | .enter f args => WfL r.n args ∧ s.run P W = .ok (.enter f (args.map (rV η')).toArray) W'

section
variable {P : Program} {n0 : Nat} {w0 : World} {H : Tr} {n : Nat} {η : Env} {W : World}

theorem Runs.same {s : Sem Next} {v : Value} (h : Inv P n0 w0 H n η W) (hv : Wf n v) (hs : s.run P W = .ok (.value (rV η v)) W) : Runs P n0 w0 η n W s ⟨.val v, H, n⟩ :=
  ⟨η, W, .refl _ _, Nat.le_refl _, h, hv, hs⟩

/-! ### The load -/
def tyOf (P : Program) (t : TypeId) : Option (Bool × Nat) :=
  match P.underlying t, P.info? t with
  | some (.struct _), some i => some (true, i.size)
  | some (.array _ _), some i => some (true, i.size)
  | some _, some i => some (false, i.size)
  | _, _ => none
theorem tyOf_agg {t : TypeId} {k : Nat} (h : tyOf P t = some (true, k)) : ∃ d, P.underlying t = some d ∧ d.isRow = true ∧ (P.info? t).map (·.size) = some k := by
  unfold tyOf at h
  split at h
  · rename_i i h1 h2; simp at h; exact ⟨_, h1, rfl, by simp [h2, h]⟩
  · rename_i i h1 h2; simp at h; exact ⟨_, h1, rfl, by simp [h2, h]⟩
  · simp at h
  · simp at h
theorem tyOf_one {t : TypeId} {k : Nat} (h : tyOf P t = some (false, k)) : (∀ w, (isAgg t).run P w = .ok false w) ∧ (P.info? t).map (·.size) = some k := by
  unfold tyOf at h
  split at h
  · simp at h
  · simp at h
  · rename_i d i h1 h2 h3 h4
    simp at h
    refine ⟨fun w => ?_, by simp [h4, h]⟩
    unfold isAgg
    rw [Sem.run_bind, run_underlying h3 w]
    cases d <;> simp_all
  · simp at h
theorem tyOf_size {t : TypeId} {b : Bool} {k : Nat} (h : tyOf P t = some (b, k)) : (P.info? t).map (·.size) = some k := by
  cases b
  · exact (tyOf_one h).2
  · obtain ⟨_, _, _, h⟩ := tyOf_agg h; exact h
theorem run_sizeOf {t : TypeId} {k : Nat} (h : (P.info? t).map (·.size) = some k) (w : World) : (Go.sizeOf t).run P w = .ok k w := by
  cases hq : P.info? t with
  | none => simp [hq] at h
  | some i => simp [hq] at h; simp [Go.sizeOf, typeInfo, hq, h]

def readCells (cs : List Value) (o k : Nat) : Option (List Value) :=
  let l := (cs.drop o).take k
  if l.length = k then some l else none
theorem readCells_spec {cs l : List Value} {o k : Nat} (h : readCells cs o k = some l) : l.length = k ∧ ∀ j v, l[j]? = some v → cs[o + j]? = some v := by
  unfold readCells at h
  dsimp only at h
  split at h
  · rename_i hk
    simp at h; subst h
    refine ⟨hk, fun j v hv => ?_⟩
    rw [List.getElem?_take] at hv
    split at hv
    · rwa [List.getElem?_drop] at hv
    · simp at hv
  · simp at h
theorem readCells_le {cs l : List Value} {o k : Nat} (h : readCells cs o k = some l) (hk : 0 < k) : o + k ≤ cs.length := by
  obtain ⟨h1, h2⟩ := readCells_spec h
  have := h2 (k - 1) (l[k-1]'(by omega)) (by rw [List.getElem?_eq_getElem])
  have := (List.getElem?_eq_some_iff.1 this).1
  omega

def evLoad (P : Program) (H : Tr) (t : TypeId) (x : Value) : Option Value :=
  match x with
  | .pointer (some ⟨b, o, none⟩) =>
    match cellsAt (H.get b) with
    | some cs =>
      match tyOf P t with
      | some (true, k) => (readCells cs o k).map fun l => .agg l.toArray
      | some (false, _) => cs[o]?
      | none => none
    | none => none
  | _ => none

theorem Inq.rangeAt (h : Inq P n0 H n η W) {b o : Nat} {cs l : List Value} (hb : cellsAt (H.get b) = some cs) (hr : ∀ j v, l[j]? = some v → cs[o + j]? = some v) :
    W.rangeAt (η.blk b) o (l.map (rV η)) ∧ WfL n l := by
  constructor
  · intro j v hv
    rw [List.getElem?_map] at hv
    cases hl : l[j]? with
    | none => rw [hl] at hv; simp at hv
    | some u =>
      rw [hl] at hv; simp at hv; subst hv
      exact (h.cellAt hb (hr j u hl)).1
  · intro v hv
    obtain ⟨j, hj⟩ := List.getElem?_of_mem hv
    exact (h.cellAt hb (hr j v hj)).2
theorem Inq.range (h : Inq P n0 H n η W) {b o : Nat} {cs l : List Value} {e : TypeId} {op : Bool} (hb : H.get b = .cells cs e op) (hr : ∀ j v, l[j]? = some v → cs[o + j]? = some v) :
    W.rangeAt (η.blk b) o (l.map (rV η)) ∧ WfL n l := by
  constructor
  · intro j v hv
    rw [List.getElem?_map] at hv
    cases hl : l[j]? with
    | none => rw [hl] at hv; simp at hv
    | some u =>
      rw [hl] at hv; simp at hv; subst hv
      exact (h.cell hb (hr j u hl)).1
  · intro v hv
    obtain ⟨j, hj⟩ := List.getElem?_of_mem hv
    exact (h.cell hb (hr j v hj)).2

theorem load_sound (h : Inq P n0 H n η W) {t : TypeId} {x v : Value} (he : evLoad P H t x = some v) :
    Wf n v ∧ (Instr.loadAt t (rV η x)).run P W = .ok (rV η v) W := by
  unfold evLoad at he
  split at he
  · rename_i b o
    split at he
    · rename_i cs hb
      split at he
      · rename_i k ht
        obtain ⟨d, hu, hd, hi⟩ := tyOf_agg ht
        cases hl : readCells cs o k with
        | none => rw [hl] at he; simp at he
        | some l =>
          rw [hl] at he; simp at he; subst he
          obtain ⟨h1, h2⟩ := readCells_spec hl
          obtain ⟨h3, h4⟩ := h.rangeAt hb h2
          refine ⟨WfL.agg.2 (by simpa using h4), ?_⟩
          rw [rV_psome, rV_agg]
          have := run_loadAt_mid W (η.blk b) o t (l.map (rV η)) d h3 hu hd (by rw [hi, List.length_map, h1])
          simp only [rA]
          rw [this]
          simp
      · rename_i k ht
        obtain ⟨h1, h2⟩ := h.cellAt hb he
        refine ⟨h2, ?_⟩
        rw [rV_psome]
        simp only [rA, Instr.loadAt, Instr.sureAddr, loadVar, Sem.run_bind, Sem.run_pure, Result.andThen_ok, (tyOf_one ht).1 W, Bool.false_eq_true, if_false, run_load, h1]
      · simp at he
    · simp at he
  · simp at he

/-! ### The store -/
def putCells (cs : List Value) (o : Nat) (vs : List Value) : List Value := cs.take o ++ vs ++ cs.drop (o + vs.length)
def isOne : Value → Bool
  | .agg _ => false
  | .tuple _ => false
  | _ => true
theorem isOne_spec {v : Value} (h : isOne v = true) (η : Env) : (rV η v).oneCell' = true := by
  rw [oneCell_rV]; cases v <;> first | rfl | simp [isOne] at h
theorem putCells_length {cs vs : List Value} {o : Nat} (h : o + vs.length ≤ cs.length) : (putCells cs o vs).length = cs.length := by
  simp [putCells]; omega
theorem putCells_get {cs vs : List Value} {o : Nat} (h : o + vs.length ≤ cs.length) (j : Nat) :
    (putCells cs o vs)[j]? = if j < o then cs[j]? else if j < o + vs.length then vs[j - o]? else cs[j]? := by
  unfold putCells
  by_cases h1 : j < o
  · rw [if_pos h1, List.append_assoc, List.getElem?_append_left (by simp; omega), List.getElem?_take, if_pos h1]
  · rw [if_neg h1]
    by_cases h2 : j < o + vs.length
    · rw [if_pos h2, List.getElem?_append_left (by simp; omega), List.getElem?_append_right (by simp; omega)]
      congr 1
      simp; omega
    · rw [if_neg h2, List.getElem?_append_right (by simp; omega), List.getElem?_drop]
      congr 1
      simp; omega
theorem putCells_map (f : Value → Value) (cs : List Value) (o : Nat) (vs : List Value) : (putCells cs o vs).map f = putCells (cs.map f) o (vs.map f) := by
  simp [putCells, List.map_take, List.map_drop]
theorem putCells_append {cs vs ex : List Value} {o : Nat} (h : o + vs.length ≤ cs.length) : putCells (cs ++ ex) o vs = putCells cs o vs ++ ex := by
  unfold putCells
  rw [List.take_append_of_le_length (by omega), List.drop_append_of_le_length (by omega)]
  simp
theorem putCells_wf {cs vs : List Value} {o : Nat} (h1 : WfL n cs) (h2 : WfL n vs) : WfL n (putCells cs o vs) := by
  intro v hv
  unfold putCells at hv
  rcases List.mem_append.1 hv with hv | hv
  · rcases List.mem_append.1 hv with hv | hv
    · exact h1 v (List.mem_of_mem_take hv)
    · exact h2 v hv
  · exact h1 v (List.mem_of_mem_drop hv)
theorem setCells_frame (b : Nat) : ∀ (vs : List Value) (o : Nat) (w : World), (w.setCells b o vs).os = w.os ∧ (w.setCells b o vs).tape = w.tape ∧ (w.setCells b o vs).output = w.output ∧ (w.setCells b o vs).heap.size = w.heap.size
  | [], _, _ => ⟨rfl, rfl, rfl, rfl⟩
  | v :: r, o, w => by
    obtain ⟨h1, h2, h3, h4⟩ := setCells_frame b r (o + 1) (w.setCell ⟨b, o, none⟩ v)
    exact ⟨h1, h2, h3, h4.trans (by simp)⟩
theorem setCells_other (b : Nat) : ∀ (vs : List Value) (o : Nat) (w : World) (k : Nat), k ≠ b → (w.setCells b o vs).heap[k]? = w.heap[k]?
  | [], _, _, _, _ => rfl
  | v :: r, o, w, k, hk => by
    rw [World.setCells, setCells_other b r (o + 1) _ k hk, Below.heap_setCell _ _ _ _ hk]
theorem setCells_block (b : Nat) (e : TypeId) (fz : Nat × Nat) : ∀ (vs : List Value) (o : Nat) (w : World) (cs : List Value), w.heap[b]? = some (.cells cs.toArray e fz) → o + vs.length ≤ cs.length →
    (w.setCells b o vs).heap[b]? = some (.cells (putCells cs o vs).toArray e fz)
  | [], o, w, cs, h, hl => by simp [World.setCells, putCells, h]
  | v :: r, o, w, cs, h, hl => by
    have hl' : o < cs.length := by simp at hl; omega
    have h1 : (w.setCell ⟨b, o, none⟩ v).heap[b]? = some (.cells (cs.set o v).toArray e fz) := by
      simp [World.setCell, Array.getElem?_modify, h]
    rw [World.setCells, setCells_block b e fz r (o + 1) _ _ h1 (by simp at hl ⊢; omega)]
    congr 3
    apply List.ext_getElem?
    intro j
    rw [putCells_get (by simp at hl ⊢; omega), putCells_get hl]
    simp only [List.length_cons] at hl ⊢
    by_cases h1 : j < o
    · simp [h1, show j < o + 1 by omega, List.getElem?_set_ne (show o ≠ j by omega)]
    · by_cases h2 : j = o
      · subst h2; simp [List.getElem?_set_self hl']
      · rw [if_neg (by omega), if_neg h1]
        by_cases h3 : j < o + 1 + r.length
        · rw [if_pos h3, if_pos (by omega), show j - o = (j - (o + 1)) + 1 by omega, List.getElem?_cons_succ]
        · rw [if_neg h3, if_neg (by omega), List.getElem?_set_ne (by omega)]
def evStore (P : Program) (n0 : Nat) (H : Tr) (n : Nat) (t : TypeId) (x y : Value) : Option Tr :=
  match x with
  | .pointer (some ⟨b, o, none⟩) =>
    match H.get b with
    | .cells cs e op =>
      match P.info? t with
      | some i =>
        let vs := y.cells.toList
        if decide (vs.length = i.size) && decide (o + vs.length ≤ cs.length) && decide (n0 ≤ b) && decide (n < most) && vs.all isOne then some (Tr.set depth H b (.cells (putCells cs o vs) e op)) else none
      | none => none
    | _ => none
  | _ => none

/-- A row of cells written, in the world and here. -/
theorem Inv.put (h : Inv P n0 w0 H n η W) (hm : n < most) {b o : Nat} {cs vs : List Value} {e : TypeId} {op : Bool} (hb : H.get b = .cells cs e op) (h0 : n0 ≤ b)
    (hl : o + vs.length ≤ cs.length) (hv : WfL n vs) : Inv P n0 w0 (Tr.set depth H b (.cells (putCells cs o vs) e op)) n η (W.setCells (η.blk b) o (vs.map (rV η))) := by
  have hlt := h.lt_of_live (b := b) (by rw [hb]; trivial)
  have hat := h.at' b hlt
  rw [hb] at hat
  obtain ⟨hw, ex, fz, h1, h2, h3, h4⟩ := hat
  refine h.turn hm hlt h0 (by rw [hb]; trivial) _ (setCells_frame _ _ _ _) (fun k hk => setCells_other _ _ _ _ k hk) ?_
  refine ⟨putCells_wf hw hv, ex, fz, ?_, ?_, h3, ?_⟩
  · rw [setCells_block _ e fz (vs.map (rV η)) o W _ h1 (by simp; omega), putCells_append (by simp; omega), putCells_map]
  · rw [putCells_length hl]; exact h2
  · rw [putCells_length hl]; exact h4
theorem Inq.there (h : Inq P n0 H n η W) {b o k : Nat} {cs : List Value} {e : TypeId} {op : Bool} (hb : H.get b = .cells cs e op) (hl : o + k ≤ cs.length) :
    W.there (η.blk b) o k := fun j hj => by
  have hlt : o + j < cs.length := by omega
  obtain ⟨h1, -⟩ := h.cell hb (List.getElem?_eq_getElem hlt)
  exact ⟨by rw [h1]; rfl, h.frozen hb hlt⟩
theorem run_storeVar_any (w : World) (b o : Nat) (ty : TypeId) (v : Value) (ht : w.there b o v.cells.size) (hi : (P.info? ty).map (·.size) = some v.cells.size) (h1 : ∀ u ∈ v.cells.toList, u.oneCell' = true) :
    (storeVar ty ⟨b, o, none⟩ v).run P w = .ok () (w.setCells b o v.cells.toList) := by
  have := run_storeCells_cells (P := P) b o v.cells.toList 0 w (fun j hj => by simpa using (ht j (by simpa using hj)).1) (fun j hj => by simpa using (ht j (by simpa using hj)).2) h1
  cases hq : P.info? ty with
  | none => simp [hq] at hi
  | some i =>
    have hs : v.cells.size = i.size := by simp [hq] at hi; omega
    simp only [Nat.add_zero] at this
    simp [storeVar, Go.sizeOf, typeInfo, hq, hs, this]
theorem store_sound (h : Inv P n0 w0 H n η W) {t : TypeId} {x y : Value} {H' : Tr} (hy : Wf n y) (he : evStore P n0 H n t x y = some H') :
    ∃ W', Inv P n0 w0 H' n η W' ∧ (Instr.storeAt t (rV η x) (rV η y)).run P W = .ok () W' := by
  unfold evStore at he
  split at he
  · rename_i b o
    split at he
    · rename_i cs e op hb
      split at he
      · rename_i i hi
        dsimp only at he
        split at he
        · rename_i hc
          simp only [Bool.and_eq_true, decide_eq_true_eq, List.all_eq_true] at hc
          obtain ⟨⟨⟨⟨h1, h2⟩, h3⟩, h4⟩, h5⟩ := hc
          simp at he; subst he
          refine ⟨_, h.put h4 hb h3 h2 hy.cells, ?_⟩
          have hsz : (rV η y).cells.size = y.cells.toList.length := by rw [cells_rV]; simp
          have := run_storeVar_any (P := P) W (η.blk b) o t (rV η y) (h.there hb (by rw [hsz]; exact h2)) (by rw [hi, hsz, h1]; rfl) (fun u hu => by
            rw [cells_rV] at hu
            simp only [Array.toList_map, List.mem_map] at hu
            obtain ⟨z, hz, rfl⟩ := hu
            exact isOne_spec (h5 z hz) η)
          rw [rV_psome]
          simp only [rA, Instr.storeAt, Instr.sureAddr, Sem.run_bind, Sem.run_pure, Result.andThen_ok, this]
          rw [cells_rV]; simp
        · simp at he
      · simp at he
    · simp at he
  · simp at he
end
end Go.Proofs.Ytoanbjnhoggpjaa.Ev
