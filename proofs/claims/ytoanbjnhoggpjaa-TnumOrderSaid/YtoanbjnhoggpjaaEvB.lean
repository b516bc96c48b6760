/-
  A closed call evaluated: values and blocks made.
-/
import Derived.Test.YtoanbjnhoggpjaaEvP
import Derived.IntWalk
namespace Go.Proofs.Ytoanbjnhoggpjaa.Ev
set_option linter.unusedSimpArgs false
set_option linter.unusedVariables false
set_option maxRecDepth 100000
open Go Go.RowKit

section
variable {P : Program} {n0 : Nat} {w0 : World} {H : Tr} {n : Nat} {η : Env} {W : World}

def zeroIn (P : Program) (n0 : Nat) (t : TypeId) : Option Value :=
  match P.info? t with
  | some i => match i.zero with
    | some z => if fixed n0 4 z then some z else none
    | none => none
  | none => none
theorem zeroIn_spec (h : Inq P n0 H n η W) {t : TypeId} {z : Value} (he : zeroIn P n0 t = some z) : (∀ w, (zeroValue t).run P w = .ok z w) ∧ rV η z = z ∧ ∀ m, n ≤ m → Wf m z := by
  unfold zeroIn at he
  split at he
  · rename_i i hi
    split at he
    · rename_i u hu
      split at he
      · rename_i hf
        simp only [Option.some.injEq] at he; subst he
        exact ⟨fun w => by simp [zeroValue, typeInfo, hi, hu], fixed_spec h.fix 4 _ hf, fun m hm => Wf.of_fixed hf (Nat.le_trans h.n0n hm)⟩
      · simp at he
    · simp at he
  · simp at he
theorem toArr (f : Value → Value) (cs : Array Value) : (cs.toList.map f).toArray = cs.map f := by apply Array.ext'; simp

/-- The places of a struct's fields. -/
def placesOf (P : Program) : List Field → Option (List (Nat × Nat))
  | [] => some []
  | f :: r => match sizeIn P f.type, placesOf P r with
    | some s, some l => some ((f.offset, s) :: l)
    | _, _ => none
theorem placesOf_spec : ∀ (fs : List Field) (l : List (Nat × Nat)), placesOf P fs = some l → ∀ w, (fs.mapM fun f => (do let s ← Go.sizeOf f.type; pure (f.offset, s) : Sem (Nat × Nat))).run P w = .ok l w
  | [], l, h, w => by simp [placesOf] at h; subst h; rfl
  | f :: r, l, h, w => by
    unfold placesOf at h
    split at h
    · rename_i s l' hs hl
      simp only [Option.some.injEq] at h; subst h
      have ih := placesOf_spec r l' hl w
      simp only [List.mapM_cons, Sem.run_bind, run_sizeOf hs w, Result.andThen_ok, Sem.run_pure, ih]
    · simp at h

def evBuild (P : Program) (n0 : Nat) (t : TypeId) (parts : List (Nat × Value)) : Option Value :=
  match zeroIn P n0 t, P.underlying t with
  | some z, some (.struct fields) => match placesOf P fields.toList with
    | some l => (Instr.fill (l.toArray[·]?) z.cells parts).map .agg
    | none => none
  | some z, some (.array _ elem) => match sizeIn P elem with
    | some s => (Instr.fill (fun i => some (i * s, s)) z.cells parts).map .agg
    | none => none
  | _, _ => none
theorem build_sound (h : Inq P n0 H n η W) {t : TypeId} {parts : List (Nat × Value)} {v : Value} (hp : ∀ p ∈ parts, Wf n p.2) (he : evBuild P n0 t parts = some v) :
    Wf n v ∧ (Instr.build t (parts.map fun p => (p.1, rV η p.2)).toArray).run P W = .ok (rV η v) W := by
  unfold evBuild at he
  split at he
  · rename_i z fields hz hu
    obtain ⟨z1, z2, z3⟩ := zeroIn_spec h hz
    split at he
    · rename_i l hl
      cases hf : Instr.fill (l.toArray[·]?) z.cells parts with
      | none => rw [hf] at he; simp at he
      | some r =>
        rw [hf] at he; simp only [Option.map_some, Option.some.injEq] at he; subst he
        refine ⟨WfL.agg.2 (fill_wf _ parts _ r (z3 n (Nat.le_refl n)).cells hp hf), ?_⟩
        have hm := fill_map η (l.toArray[·]?) parts z.cells
        rw [hf, ← cells_rV, z2] at hm
        simp only [Instr.build, Sem.run_bind, z1, Result.andThen_ok, run_underlying hu]
        have hpl := placesOf_spec _ _ hl W
        have hpl' : (fields.mapM fun f => (do let s ← Go.sizeOf f.type; pure (f.offset, s) : Sem (Nat × Nat))).run P W = .ok l.toArray W := by
          rw [Array.mapM_eq_mapM_toList]
          simp only [map_eq_pure_bind, Sem.run_bind, hpl, Result.andThen_ok, Sem.run_pure]
        simp only [Sem.run_bind, hpl', Result.andThen_ok, hm, Option.map_some, Sem.run_pure, rV_agg]
    · simp at he
  · rename_i z len elem hz hu
    obtain ⟨z1, z2, z3⟩ := zeroIn_spec h hz
    split at he
    · rename_i s hs
      cases hf : Instr.fill (fun i => some (i * s, s)) z.cells parts with
      | none => rw [hf] at he; simp at he
      | some r =>
        rw [hf] at he; simp only [Option.map_some, Option.some.injEq] at he; subst he
        refine ⟨WfL.agg.2 (fill_wf _ parts _ r (z3 n (Nat.le_refl n)).cells hp hf), ?_⟩
        have hm := fill_map η (fun i => some (i * s, s)) parts z.cells
        rw [hf, ← cells_rV, z2] at hm
        simp only [Instr.build, Sem.run_bind, z1, Result.andThen_ok, run_underlying hu, run_sizeOf hs, hm, Option.map_some, Sem.run_pure, rV_agg]
    · simp at he
  · simp at he

/-! ### New blocks -/
def newCells (H : Tr) (n : Nat) (e : TypeId) (cs : List Value) (k : Nat → Value) : Option Res :=
  if n < most then some ⟨.val (k n), Tr.set depth H n (.cells cs e false), n + 1⟩ else none
theorem newRow_sound (h : Inv P n0 w0 H n η W) {e : TypeId} {cs : List Value} {k : Nat → Value} {r : Res} (hw : WfL n cs) (he : newCells H n e cs k = some r)
    (hk : Wf (n + 1) (k n)) (s : Sem Next)
    (hs : ∀ η' : Env, η'.blk n = W.heap.size → Agree n η η' → s.run P W = .ok (.value (rV η' (k n))) (W.alloc (.cells (cs.map (rV η)).toArray e))) :
    Runs P n0 w0 η n W s r := by
  unfold newCells at he
  split at he
  · rename_i hm
    simp only [Option.some.injEq] at he; subst he
    have ha := η.put_agree n W.heap.size 0
    exact ⟨_, _, ha, Nat.le_succ n, h.alloc hm e hw, hk, hs _ (Env.put_blk _ _ _ _) ha⟩
  · simp at he
theorem run_newRow (e : TypeId) (cs : Array Value) (w : World) : (newRow e cs).run P w = .ok ⟨w.heap.size, 0, none⟩ (w.alloc (.cells cs e)) := rfl

def evBox (H : Tr) (n : Nat) (e : TypeId) (x : Value) : Option Res := newCells H n e x.cells.toList fun b => .pointer (some ⟨b, 0, none⟩)
theorem box_sound (h : Inv P n0 w0 H n η W) {e : TypeId} {x : Value} {r : Res} (hx : Wf n x) (he : evBox H n e x = some r) :
    Runs P n0 w0 η n W (do pure (.value (← Instr.box e (rV η x)))) r := by
  refine newRow_sound h hx.cells he (Wf.ptr (Nat.lt_succ_self n)) _ fun η' hb ha => ?_
  simp [Instr.box, newVar, run_newRow, rA_mk, hb, cells_rV, toArr]
def evAlloc (P : Program) (n0 : Nat) (H : Tr) (n : Nat) (e : TypeId) : Option Res :=
  match zeroIn P n0 e with
  | some z => evBox H n e z
  | none => none
theorem alloc_sound (h : Inv P n0 w0 H n η W) {e : TypeId} {r : Res} (he : evAlloc P n0 H n e = some r) :
    Runs P n0 w0 η n W (do pure (.value (← Instr.alloc e true (.tuple #[])))) r := by
  unfold evAlloc at he
  split at he
  · rename_i z hz
    obtain ⟨z1, z2, z3⟩ := zeroIn_spec h.toInq hz
    refine newRow_sound h (z3 n (Nat.le_refl n)).cells he (Wf.ptr (Nat.lt_succ_self n)) _ fun η' hb ha => ?_
    have hc := cells_rV η z
    rw [z2] at hc
    simp [Instr.alloc, z1, newVar, run_newRow, rA_mk, hb, toArr, ← hc]
  · simp at he
/-- So many times the same cells. -/
def zerosOf (z : List Value) : Nat → List Value
  | 0 => []
  | k + 1 => z ++ zerosOf z k
theorem zerosOf_length (z : List Value) : ∀ k, (zerosOf z k).length = k * z.length
  | 0 => by simp [zerosOf]
  | k + 1 => by simp [zerosOf, zerosOf_length z k, Nat.succ_mul]; omega
theorem zerosOf_get (z : List Value) (hz : 0 < z.length) : ∀ (k i : Nat), i < k * z.length → (zerosOf z k)[i]? = some (z[i % z.length]'(Nat.mod_lt _ hz))
  | 0, i, h => by simp at h
  | k + 1, i, h => by
    unfold zerosOf
    by_cases hi : i < z.length
    · rw [List.getElem?_append_left hi, List.getElem?_eq_getElem hi]
      congr 2
      exact (Nat.mod_eq_of_lt hi).symm
    · rw [List.getElem?_append_right (by omega), zerosOf_get z hz k (i - z.length) (by rw [Nat.succ_mul] at h; omega)]
      congr 2
      conv => rhs; rw [show i = (i - z.length) + z.length by omega]
      simp
theorem zeros_eq (z : Array Value) (k : Nat) (hz : 0 < z.size) : (Array.range (k * z.size)).map (z[· % z.size]!) = (zerosOf z.toList k).toArray := by
  apply Array.ext'
  apply List.ext_getElem?
  intro i
  by_cases hi : i < k * z.size
  · rw [show (zerosOf z.toList k).toArray.toList = zerosOf z.toList k from rfl, zerosOf_get z.toList (by simpa using hz) k i (by simpa using hi)]
    have : i % z.size < z.size := Nat.mod_lt _ hz
    simp [hi, this]
  · rw [List.getElem?_eq_none (by simp; omega), List.getElem?_eq_none (by simp [zerosOf_length]; omega)]
theorem zerosOf_wf {m : Nat} {z : List Value} (hz : WfL m z) : ∀ k, WfL m (zerosOf z k)
  | 0 => fun v hv => by simp [zerosOf] at hv
  | k + 1 => fun v hv => by
    rcases List.mem_append.1 hv with hv | hv
    · exact hz v hv
    · exact zerosOf_wf hz k v hv
theorem zerosOf_map (f : Value → Value) (z : List Value) : ∀ k, (zerosOf z k).map f = zerosOf (z.map f) k
  | 0 => rfl
  | k + 1 => by simp [zerosOf, zerosOf_map f z k]
def evBuildSlice (P : Program) (n0 : Nat) (H : Tr) (n : Nat) (t : TypeId) (len : Nat) (parts : List (Nat × Value)) : Option Res :=
  match P.underlying t with
  | some (.slice elem) => match sizeIn P elem, zeroIn P n0 elem with
    | some s, some z =>
      if decide (len * s ≤ 2 ^ 24) && decide (0 < len * s) && decide (len < 2 ^ 70) && decide (z.cells.size = s) then
        match Instr.fill (fun i => some (i * s, s)) (zerosOf z.cells.toList len).toArray parts with
        | some cs => newCells H n elem cs.toList fun b => .slice (some ⟨b, 0, none⟩) len len
        | none => none
      else if decide (len * s = 0) && (parts.isEmpty && decide (len < 2 ^ 70)) then newCells H n elem [] fun b => .slice (some ⟨b, 0, none⟩) len len
      else none
    | _, _ => none
  | _ => none
theorem zerosOf_fixed {z : Value} (hz : rV η z = z) (k : Nat) : (zerosOf z.cells.toList k).map (rV η) = zerosOf z.cells.toList k := by
  rw [zerosOf_map, ← Array.toList_map, ← cells_rV, hz]
theorem buildSlice_sound (h : Inv P n0 w0 H n η W) {t : TypeId} {len : Nat} {parts : List (Nat × Value)} {r : Res} (hp : ∀ p ∈ parts, Wf n p.2) (he : evBuildSlice P n0 H n t len parts = some r) :
    Runs P n0 w0 η n W (do pure (.value (← Instr.buildSlice t len (parts.map fun p => (p.1, rV η p.2)).toArray))) r := by
  unfold evBuildSlice at he
  split at he
  · rename_i elem hu
    split at he
    · rename_i s z hs hz
      obtain ⟨z1, z2, z3⟩ := zeroIn_spec h.toInq hz
      split at he
      · rename_i hc
        simp only [Bool.and_eq_true, decide_eq_true_eq] at hc
        split at he
        · rename_i cs hf
          have hm := fill_map η (fun i => some (i * s, s)) parts (zerosOf z.cells.toList len).toArray
          rw [hf, List.map_toArray, zerosOf_fixed z2] at hm
          have hpos : 0 < z.cells.size := by rw [hc.2]; exact Nat.pos_of_ne_zero (fun e => by rw [e] at hc; omega)
          have hze := zeros_eq z.cells len hpos
          refine newRow_sound h (fill_wf _ parts _ cs (zerosOf_wf (z3 n (Nat.le_refl n)).cells len) hp hf) he (Wf.slice (Nat.lt_succ_self n)) _ fun η' hb ha => ?_
          simp only [Instr.buildSlice, Sem.run_bind, run_underlying hu, Result.andThen_ok, run_sizeOf hs]
          rw [if_neg (by omega), if_neg (by omega)]
          simp only [Sem.run_bind, z1, Result.andThen_ok, Sem.run_pure]
          rw [← hc.2] at hm ⊢
          simp only [hze, hm, Option.map_some, Sem.run_bind, Result.andThen_ok, Sem.run_pure, run_newRow, rV_ssome, rA_mk, hb, rCap_lt hc.1.2, toArr]
        · simp at he
      · split at he
        · rename_i hc
          simp only [Bool.and_eq_true, decide_eq_true_eq, List.isEmpty_iff] at hc
          obtain ⟨h0, rfl, h70⟩ := hc
          refine newRow_sound h (fun v hv => by cases hv) he (Wf.slice (Nat.lt_succ_self n)) _ fun η' hb ha => ?_
          simp only [Instr.buildSlice, Sem.run_bind, run_underlying hu, Result.andThen_ok, run_sizeOf hs]
          rw [if_neg (by omega), if_pos h0]
          simp only [Sem.run_bind, Result.andThen_ok, Sem.run_pure, h0, List.map_nil, Instr.fill, run_newRow, rV_ssome, rA_mk, hb, rCap_lt h70, toArr]
          rw [show (Array.range 0) = #[] from Array.eq_empty_of_size_eq_zero Array.size_range, Array.map_empty]
        · simp at he
    · simp at he
  · simp at he

def evMakeSlice (P : Program) (n0 : Nat) (H : Tr) (n : Nat) (t : TypeId) (l c : Value) : Option Res :=
  match P.underlying t, l, c with
  | some (.slice elem), .int _ l, .int _ c =>
    match P.info? elem with
    | some i =>
      if decide (0 ≤ l) && decide (l ≤ c) && decide (c < 2 ^ 40) && decide (i.bytes * c ≤ 2 ^ 47) then
        if c.toNat * i.size = 0 then newCells H n elem [] fun b => .slice (some ⟨b, 0, none⟩) l.toNat c.toNat
        else match zeroIn P n0 elem with
          | some z => if z.cells.size = i.size then newCells H n elem (zerosOf z.cells.toList c.toNat) fun b => .slice (some ⟨b, 0, none⟩) l.toNat c.toNat else none
          | none => none
      else none
    | none => none
  | _, _, _ => none
theorem wrap_small {c : Int} (h0 : 0 ≤ c) (h : c < 2 ^ 40) : IntKind.i64.wrap c = c := IntWalk.i64_in _ (by omega)
theorem makeSlice_sound (h : Inv P n0 w0 H n η W) {t : TypeId} {l c : Value} {r : Res} (he : evMakeSlice P n0 H n t l c = some r) :
    Runs P n0 w0 η n W (do pure (.value (← Instr.makeSlice t (rV η l) (rV η c)))) r := by
  unfold evMakeSlice at he
  split at he
  · rename_i elem kl l kc c hu
    split at he
    · rename_i i hi
      split at he
      · rename_i hc
        simp only [Bool.and_eq_true, decide_eq_true_eq] at hc
        obtain ⟨⟨⟨h1, h2⟩, h3⟩, h4⟩ := hc
        have hl : IntKind.i64.wrap l = l := wrap_small h1 (by omega)
        have hcw : IntKind.i64.wrap c = c := wrap_small (by omega) h3
        have hsz : ∀ w, (Go.sizeOf elem).run P w = .ok i.size w := run_sizeOf (by simp [hi])
        have hti : ∀ w, (typeInfo elem).run P w = .ok i w := fun w => by simp [typeInfo, hi]
        have hroom : ¬ (c.toNat * i.bytes > roomBytes) := by
          unfold roomBytes
          have : ((c.toNat * i.bytes : Nat) : Int) = i.bytes * c := by
            rw [Int.natCast_mul, Int.toNat_of_nonneg (by omega), Int.mul_comm]
          omega
        have hbad : (decide (c < 0) || decide ((i.bytes : Int) * c > 2 ^ 48) || decide (l < 0) || decide (l > c)) = false := by
          simp; omega
        have hask : (askRoom (c.toNat * i.bytes)).run P W = .ok () W := by unfold askRoom; rw [if_neg hroom]; rfl
        split at he
        · rename_i hz0
          refine newRow_sound h (fun v hv => by simp at hv) he (Wf.slice (Nat.lt_succ_self n)) _ fun η' hb ha => ?_
          simp only [Instr.makeSlice, Sem.run_bind, run_underlying hu, Result.andThen_ok, rV_int, asInt, asIntOf, Sem.run_pure, hti, hl, hcw, hbad, Bool.false_eq_true, if_false, hask, hsz, hz0, if_true]
          simp [run_newRow, rA_mk, hb, rCap_lt (show c.toNat < 2 ^ 70 by omega), show Array.range 0 = #[] from by decide]
        · rename_i hz0
          split at he
          · rename_i z hz
            obtain ⟨z1, z2, z3⟩ := zeroIn_spec h.toInq hz
            split at he
            · rename_i hzs
              refine newRow_sound h (zerosOf_wf (z3 n (Nat.le_refl n)).cells _) he (Wf.slice (Nat.lt_succ_self n)) _ fun η' hb ha => ?_
              have hpos : 0 < z.cells.size := by rw [hzs]; exact Nat.pos_of_ne_zero (fun e => hz0 (by rw [e]; simp))
              have hze := zeros_eq z.cells c.toNat hpos
              simp only [Instr.makeSlice, Sem.run_bind, run_underlying hu, Result.andThen_ok, rV_int, asInt, asIntOf, Sem.run_pure, hti, hl, hcw, hbad, Bool.false_eq_true, if_false, hask, hsz, hz0, z1]
              rw [← hzs]
              simp only [hze, run_newRow, Result.andThen_ok, Sem.run_pure, rV_ssome, rA_mk, hb, rCap_lt (show c.toNat < 2 ^ 70 by omega), zerosOf_fixed z2]
            · simp at he
          · simp at he
      · simp at he
    · simp at he
  · simp at he
end
end Go.Proofs.Ytoanbjnhoggpjaa.Ev
