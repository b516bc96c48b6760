/-
  A closed call evaluated: operations that leave memory alone.
-/
import Derived.Test.YtoanbjnhoggpjaaEvO
namespace Go.Proofs.Ytoanbjnhoggpjaa.Ev
set_option linter.unusedSimpArgs false
set_option linter.unusedVariables false
set_option maxRecDepth 100000
open Go Go.RowKit

section
variable {P : Program} {n0 : Nat} {w0 : World} {H : Tr} {n : Nat} {η : Env} {W : World}

/-! ### Operations that ask no memory at all -/
def pureRun {α : Type} (P : Program) : Sem α → Option α
  | .pure a => some a
  | .program k => pureRun P (k P)
  | .mark _ k => pureRun P k
  | _ => none
theorem pureRun_spec {α : Type} : ∀ (s : Sem α) (a : α), pureRun P s = some a → ∀ w, s.run P w = .ok a w := by
  intro s
  induction s with
  | pure b => intro a h w; simp [pureRun] at h; subst h; rfl
  | program k ih => intro a h w; exact ih P a h w
  | mark m k ih => intro a h w; exact ih a h w
  | _ => intro a h; simp [pureRun] at h

def sizeIn (P : Program) (t : TypeId) : Option Nat := (P.info? t).map (·.size)

def evPart (P : Program) (t : TypeId) (cs : List Value) (off : Nat) : Option Value :=
  match tyOf P t with
  | some (true, k) => some (.agg ((cs.drop off).take k).toArray)
  | some (false, _) => cs[off]?
  | none => none
theorem part_sound {t : TypeId} {cs : List Value} {off : Nat} {v : Value} (hw : WfL n cs) (he : evPart P t cs off = some v) (W : World) :
    Wf n v ∧ (part t (cs.map (rV η)).toArray off).run P W = .ok (rV η v) W := by
  unfold evPart at he
  split at he
  · rename_i k ht
    simp at he; subst he
    obtain ⟨d, hu, hd, hi⟩ := tyOf_agg ht
    have hagg : (isAgg t).run P W = .ok true W := by
      unfold isAgg
      rw [Sem.run_bind, run_underlying hu W]
      cases d <;> simp_all
    refine ⟨WfL.agg.2 fun v hv => hw v ?_, ?_⟩
    · simp only at hv; exact List.mem_of_mem_drop (List.mem_of_mem_take hv)
    · simp only [part, Sem.run_bind, hagg, Result.andThen_ok, if_true, run_sizeOf hi W, Sem.run_pure]
      rw [rV_agg]
      congr 2
      apply Array.ext'
      simp [List.map_take, List.map_drop, List.extract_eq_take_drop]
  · rename_i k ht
    refine ⟨hw v (List.mem_of_getElem? he), ?_⟩
    have : ((cs.map (rV η)).toArray)[off]? = some (rV η v) := by simp [he]
    simp only [part, Sem.run_bind, (tyOf_one ht).1 W, Result.andThen_ok, Bool.false_eq_true, if_false, this, Sem.run_pure]
  · simp at he

/-- The bounds of a slice expression: canonical operands. -/
def evBound (x : Value) (y : Nat) : Option Nat :=
  match x with
  | .int _ i => if decide (0 ≤ i) && decide (i ≤ (y : Int)) then some i.toNat else none
  | _ => none
theorem bound_sound {x : Value} {y m : Nat} (he : evBound x y = some m) (c : BoundsCode) (W : World) (z : Nat) (hz : y ≤ z) : (Instr.sliceBound x z c).run P W = .ok m W ∧ m ≤ y := by
  unfold evBound at he
  split at he
  · rename_i k i
    split at he
    · rename_i hc
      simp only [Bool.and_eq_true, decide_eq_true_eq] at hc
      simp at he; subst he
      refine ⟨?_, by omega⟩
      simp only [Instr.sliceBound, asIntOf, Sem.run_bind, Sem.run_pure, Result.andThen_ok]
      rw [if_pos ⟨hc.1, by omega⟩]
      rfl
    · simp at he
  · simp at he

/-- The room of a slice, as far as it is known. -/
def roomOf (P : Program) (H : Tr) (b sz cap : Nat) : Nat :=
  if cap < 2 ^ 70 then cap else match H.get b with
    | .cells cs e true => if decide (P.cellsOf e = sz) && decide (0 < sz) && decide (cap ≤ roomy) then cs.length / sz - (roomy - cap) else 0
    | _ => 0
theorem roomOf_le (hI : Inq P n0 H n η W) {b sz cap : Nat} : roomOf P H b sz cap ≤ rCap η b cap := by
  unfold roomOf
  split
  · rename_i hc; simp [rCap, hc]
  · rename_i hc
    split
    · rename_i cs e hb
      split
      · rename_i hh
        simp only [Bool.and_eq_true, decide_eq_true_eq] at hh
        obtain ⟨⟨q1, q2⟩, q3⟩ := hh
        have hlt := hI.lt_of_live (b := b) (by rw [hb]; trivial)
        have hat := hI.at' b hlt
        rw [hb] at hat
        obtain ⟨-, ex, fz, -, -, -, h5⟩ := hat
        have h6 := h5 rfl
        rw [q1] at h6
        have h7 : cs.length / sz ≤ η.cap b := Nat.div_le_of_le_mul (by rw [Nat.mul_comm]; omega)
        have hcap : rCap η b cap = η.cap b + cap - roomy := by simp [rCap, hc]
        rw [hcap]; omega
      · exact Nat.zero_le _
    · exact Nat.zero_le _
def evSlice (P : Program) (H : Tr) (t : TypeId) (x : Value) (lo hi mx : Option Value) : Option Value :=
  match P.underlying t, x, mx with
  | some (.slice elem), .slice (some ⟨b, o, none⟩) len cap, none =>
    match sizeIn P elem, (match hi with | some v => evBound v (if cap < 2 ^ 70 then cap else len) | none => some len) with
    | some sz, some h => match (match lo with | some v => evBound v h | none => some 0) with
      | some l =>
        if cap < 2 ^ 70 then some (.slice (some (if cap = l then ⟨b, o, none⟩ else (⟨b, o, none⟩ : Addr).add (l * sz))) (h - l) (cap - l))
        else match H.get b with
          | .cells cs e true =>
            if decide (P.cellsOf e = sz) && decide (0 < sz) && decide ((roomy - cap + len) * sz ≤ cs.length) && (decide (l < len) || decide (l = 0)) && decide (cap ≤ roomy) && decide (2 ^ 70 + l ≤ cap) then
              some (.slice (some ((⟨b, o, none⟩ : Addr).add (l * sz))) (h - l) (cap - l))
            else none
          | _ => none
      | none => none
    | _, _ => none
  | some (.array cnt elem), .pointer (some ⟨b, o, none⟩), none =>
    match sizeIn P elem, (match hi with | some v => evBound v cnt | none => some cnt) with
    | some sz, some h => match (match lo with | some v => evBound v h | none => some 0) with
      | some l => if cnt < 2 ^ 70 then some (.slice (some (if cnt = l then ⟨b, o, none⟩ else (⟨b, o, none⟩ : Addr).add (l * sz))) (h - l) (cnt - l)) else none
      | none => none
    | _, _ => none
  | some (.slice elem), .slice (some ⟨b, o, none⟩) len cap, some mv =>
    match sizeIn P elem, hi with
    | some sz, some hv => match evBound mv (roomOf P H b sz cap) with
      | some m => match evBound hv m with
        | some h => match (match lo with | some v => evBound v h | none => some 0) with
          | some l => if m < 2 ^ 70 then some (.slice (some (if m = l then ⟨b, o, none⟩ else (⟨b, o, none⟩ : Addr).add (l * sz))) (h - l) (m - l)) else none
          | none => none
        | none => none
      | none => none
    | _, _ => none
  | _, _, _ => none
theorem rA_mk (η : Env) (b o : Nat) (s : Option Nat) : rA η ⟨b, o, s⟩ = ⟨η.blk b, o, s⟩ := rfl
theorem rA_add (η : Env) (b o k : Nat) : rA η ((⟨b, o, none⟩ : Addr).add k) = (⟨η.blk b, o, none⟩ : Addr).add k := by
  unfold Addr.add; split <;> rfl
theorem rCap_lt {η : Env} {b c : Nat} (h : c < 2 ^ 70) : rCap η b c = c := by simp [rCap, h]
theorem add_block (b o k : Nat) : ((⟨b, o, none⟩ : Addr).add k).block = b := by unfold Addr.add; split <;> rfl
theorem bounds_sound {isS : Bool} {len cap y : Nat} {lo hi : Option Value} {h l : Nat} (hy : y ≤ cap)
    (h1 : (match hi with | some v => evBound v y | none => some len) = some h) (h2 : (match lo with | some v => evBound v h | none => some 0) = some l) (W : World) :
    (Instr.sliceBounds isS len cap (lo.map (rV η)) (hi.map (rV η)) none).run P W = .ok (l, h, cap) W := by
  have hint : ∀ (v : Value) (y m : Nat), evBound v y = some m → rV η v = v := by
    intro v y m hv; unfold evBound at hv; split at hv
    · simp
    · simp at hv
  cases hi with
  | none =>
    simp only [Option.some.injEq] at h1; subst h1
    cases lo with
    | none => simp only [Option.some.injEq] at h2; subst h2; simp [Instr.sliceBounds]
    | some u =>
      dsimp only at h2
      simp [Instr.sliceBounds, hint _ _ _ h2, (bound_sound h2 _ W _ (Nat.le_refl _)).1]
  | some v =>
    dsimp only at h1
    cases lo with
    | none => simp only [Option.some.injEq] at h2; subst h2; simp [Instr.sliceBounds, hint _ _ _ h1, (bound_sound h1 _ W _ hy).1]
    | some u =>
      dsimp only at h2
      simp [Instr.sliceBounds, hint _ _ _ h1, hint _ _ _ h2, (bound_sound h1 _ W _ hy).1, (bound_sound h2 _ W _ (Nat.le_refl _)).1]
theorem evBound_int {v : Value} {y m : Nat} (hv : evBound v y = some m) : rV η v = v := by
  unfold evBound at hv; split at hv
  · simp
  · simp at hv
theorem bounds3_sound {isS : Bool} {len cap y : Nat} {lo : Option Value} {hv mv : Value} {h l m : Nat} (hy : y ≤ cap)
    (h0 : evBound mv y = some m) (h1 : evBound hv m = some h) (h2 : (match lo with | some v => evBound v h | none => some 0) = some l) (W : World) :
    (Instr.sliceBounds isS len cap (lo.map (rV η)) (some (rV η hv)) (some (rV η mv))).run P W = .ok (l, h, m) W := by
  cases lo with
  | none =>
    simp only [Option.some.injEq] at h2; subst h2
    simp [Instr.sliceBounds, evBound_int h0, evBound_int h1, (bound_sound h0 _ W _ hy).1, (bound_sound h1 _ W _ (Nat.le_refl _)).1]
  | some u =>
    dsimp only at h2
    simp [Instr.sliceBounds, evBound_int h0, evBound_int h1, evBound_int h2, (bound_sound h0 _ W _ hy).1, (bound_sound h1 _ W _ (Nat.le_refl _)).1, (bound_sound h2 _ W _ (Nat.le_refl _)).1]
theorem slice_sound (hI : Inq P n0 H n η W) {t : TypeId} {x v : Value} {lo hi mx : Option Value} (hx : Wf n x) (he : evSlice P H t x lo hi mx = some v) :
    Wf n v ∧ (Instr.sliceAt t (rV η x) (lo.map (rV η)) (hi.map (rV η)) (mx.map (rV η))).run P W = .ok (rV η v) W := by
  unfold evSlice at he
  split at he
  · rename_i elem b o len cap hu
    split at he
    · rename_i sz h hs h1
      split at he
      · rename_i l h2
        split at he
        · rename_i hc
          simp only [Option.some.injEq] at he
          subst he
          simp only [hc, if_true] at h1
          have hl0 := bounds_sound (P := P) (η := η) (isS := true) (Nat.le_refl cap) h1 h2 W
          have hcap : rCap η b cap = cap := by simp [rCap, hc]
          refine ⟨?_, ?_⟩
          · intro η' η'' ha
            have := hx η' η'' ha
            simp [rA] at this
            have hc' : cap - l < 2 ^ 70 := by omega
            simp only [rV_ssome]
            split <;> simp [rA, rCap, Addr.add, hc, hc', this] <;> split <;> simp [this, hc']
          · simp only [Instr.sliceAt, Sem.run_bind, run_underlying hu, Result.andThen_ok, rV_ssome, rA_mk, hcap, Option.map_none, Instr.slice, hl0, run_sizeOf hs W, Sem.run_pure]
            have hc' : cap - l < 2 ^ 70 := by omega
            split
            · simp [rA, rCap, hc']
            · simp only [Option.map_some, rA_add, rV_ssome, rCap_lt hc']
        · rename_i hc
          simp only [hc, if_false] at h1
          split at he
          · rename_i cs e hb
            split at he
            · rename_i hh
              simp only [Bool.and_eq_true, Bool.or_eq_true, decide_eq_true_eq] at hh
              obtain ⟨⟨⟨⟨⟨q1, q2⟩, q3⟩, q4⟩, q5⟩, q6⟩ := hh
              simp only [Option.some.injEq] at he
              subst he
              have hlt := hI.lt_of_live (b := b) (by rw [hb]; trivial)
              have hat := hI.at' b hlt
              rw [hb] at hat
              obtain ⟨-, ex, fz, -, -, -, h5⟩ := hat
              have h6 := h5 rfl
              rw [q1] at h6
              have h7 : roomy - cap + len ≤ η.cap b := Nat.le_of_mul_le_mul_right (by omega) q2
              have hcap : rCap η b cap = η.cap b + cap - roomy := by simp [rCap, hc]
              have hl0 := bounds_sound (P := P) (η := η) (isS := true) (len := len) (cap := rCap η b cap) (by rw [hcap]; omega) h1 h2 W
              have hc' : ¬ cap - l < 2 ^ 70 := by omega
              have hcl : ∀ η : Env, rCap η b (cap - l) = rCap η b cap - l := fun η => by
                rw [rCap, if_neg hc', rCap, if_neg hc]; omega
              refine ⟨?_, ?_⟩
              · intro η' η'' ha
                have := hx η' η'' ha
                simp [rA] at this
                simp only [rV_ssome, add_block, hcl, rA_add, this]
              · simp only [Instr.sliceAt, Sem.run_bind, run_underlying hu, Result.andThen_ok, rV_ssome, rA_mk, Option.map_none, Instr.slice, hl0, run_sizeOf hs W, Sem.run_pure]
                rw [add_block, hcl, rA_add]
                split
                · rename_i hz
                  have : l = 0 := by
                    rcases q4 with q4 | q4
                    · rw [hcap] at hz; omega
                    · exact q4
                  subst this
                  simp [Addr.add]
                · rfl
            · simp at he
          · simp at he
      · simp at he
    · simp at he
  · rename_i cnt elem b o hu
    split at he
    · rename_i sz h hs h1
      split at he
      · rename_i l h2
        split at he
        · rename_i hc
          simp only [Option.some.injEq] at he
          subst he
          have hl0 := bounds_sound (P := P) (η := η) (isS := false) (Nat.le_refl cnt) h1 h2 W
          refine ⟨?_, ?_⟩
          · intro η' η'' ha
            have := hx η' η'' ha
            simp [rA] at this
            have hc' : cnt - l < 2 ^ 70 := by omega
            simp only [rV_ssome]
            split <;> simp [rA, rCap, Addr.add, hc, hc', this] <;> split <;> simp [this, hc']
          · simp only [Instr.sliceAt, Sem.run_bind, run_underlying hu, Result.andThen_ok, rV_psome, rA_mk, Instr.sureAddr, Option.map_none, hl0, run_sizeOf hs W, Sem.run_pure]
            have hc' : cnt - l < 2 ^ 70 := by omega
            split
            · simp [rA, rCap, hc']
            · simp only [rA_add, rV_ssome, rCap_lt hc']
        · simp at he
      · simp at he
    · simp at he
  · rename_i elem b o len cap mv hu
    split at he
    case h_2 => simp at he
    rename_i sz hv hs
    split at he
    case h_2 => simp at he
    rename_i m h0
    split at he
    case h_2 => simp at he
    rename_i h h1
    split at he
    case h_2 => simp at he
    rename_i l h2
    split at he
    case isFalse => simp at he
    rename_i hm
    simp only [Option.some.injEq] at he; subst he
    have hc' : m - l < 2 ^ 70 := by omega
    have hl0 := bounds3_sound (P := P) (η := η) (isS := true) (len := len) (cap := rCap η b cap) (roomOf_le hI) h0 h1 h2 W
    refine ⟨?_, ?_⟩
    · intro η' η'' ha
      have := hx η' η'' ha
      simp [rA] at this
      simp only [rV_ssome]
      split <;> simp [rA, rCap, Addr.add, hc', this] <;> split <;> simp [this, hc']
    · simp only [Instr.sliceAt, Sem.run_bind, run_underlying hu, Result.andThen_ok, rV_ssome, rA_mk, Option.map_some, Instr.slice, hl0, run_sizeOf hs W, Sem.run_pure]
      split
      · simp [rA, rCap, hc']
      · simp only [Option.map_some, rA_add, rV_ssome, rCap_lt hc']
  · simp at he

/-! ### Fields, indexes -/
def evField (P : Program) (t : TypeId) (x : Value) (f : Nat) : Option Value :=
  match P.underlying t, x with
  | some (.struct fields), .agg cs => match fields[f]? with
    | some fd => evPart P fd.type cs.toList fd.offset
    | none => none
  | _, _ => none
theorem field_sound {t : TypeId} {x v : Value} {f : Nat} (hx : Wf n x) (he : evField P t x f = some v) (W : World) :
    Wf n v ∧ (Instr.field t (rV η x) f).run P W = .ok (rV η v) W := by
  unfold evField at he
  split at he
  · rename_i fields cs hu
    split at he
    · rename_i fd hf
      obtain ⟨h1, h2⟩ := part_sound (η := η) (WfL.agg.1 hx) he W
      refine ⟨h1, ?_⟩
      simp only [Instr.field, Sem.run_bind, run_underlying hu, Result.andThen_ok, hf, rV_agg, asAgg, Sem.run_pure]
      rw [← h2]; congr 1; congr 1; apply Array.ext'; simp
    · simp at he
  · simp at he
def evIndex (P : Program) (t : TypeId) (x ix : Value) : Option Value :=
  match P.underlying t, x, ix with
  | some (.array len elem), .agg cs, .int _ i =>
    match sizeIn P elem with
    | some sz => if decide (0 ≤ i) && decide (i < (len : Int)) then evPart P elem cs.toList (i.toNat * sz) else none
    | none => none
  | _, _, _ => none
theorem index_sound {t : TypeId} {x ix v : Value} (hx : Wf n x) (he : evIndex P t x ix = some v) (W : World) :
    Wf n v ∧ (Instr.index t (rV η x) (rV η ix)).run P W = .ok (rV η v) W := by
  unfold evIndex at he
  split at he
  · rename_i len elem cs k i hu
    split at he
    · rename_i sz hs
      split at he
      · rename_i hc
        simp only [Bool.and_eq_true, decide_eq_true_eq] at hc
        obtain ⟨h1, h2⟩ := part_sound (η := η) (WfL.agg.1 hx) he W
        refine ⟨h1, ?_⟩
        simp only [Instr.index, asIntOf, rV_int, Sem.run_bind, Sem.run_pure, Result.andThen_ok, run_underlying hu, rV_agg, run_sizeOf hs W]
        rw [if_pos ⟨hc.1, hc.2⟩]
        simp only [Sem.run_bind, run_sizeOf hs W, Result.andThen_ok]
        rw [← h2]; congr 1; congr 1; apply Array.ext'; simp
      · simp at he
    · simp at he
  · simp at he
def evFieldAddr (P : Program) (t : TypeId) (x : Value) (f : Nat) : Option Value :=
  match P.underlying t, x with
  | some (.struct fields), .pointer (some ⟨b, o, none⟩) => match fields[f]? with
    | some fd => match sizeIn P fd.type with
      | some (_ + 1) => some (.pointer (some ((⟨b, o, none⟩ : Addr).add fd.offset)))
      | _ => none
    | none => none
  | _, _ => none
theorem Wf.add {b o k : Nat} (h : Wf n (.pointer (some ⟨b, o, none⟩))) : Wf n (.pointer (some ((⟨b, o, none⟩ : Addr).add k))) := by
  unfold Addr.add; split
  · exact h
  · exact Wf.ptr_of h
theorem fieldAddr_sound {t : TypeId} {x v : Value} {f : Nat} (hx : Wf n x) (he : evFieldAddr P t x f = some v) (W : World) :
    Wf n v ∧ (Instr.fieldAt t (rV η x) f).run P W = .ok (rV η v) W := by
  unfold evFieldAddr at he
  split at he
  · rename_i fields b o hu
    split at he
    · rename_i fd hf
      split at he
      · rename_i k hs
        simp only [Option.some.injEq] at he; subst he
        refine ⟨hx.add, ?_⟩
        simp only [Instr.fieldAt, Sem.run_bind, run_underlying hu, Result.andThen_ok, hf, rV_psome, rA_mk, Instr.sureAddr, Sem.run_pure, fieldPlace, run_sizeOf hs W, Nat.succ_ne_zero, if_false, rA_add]
      · simp at he
    · simp at he
  · simp at he
def evIndexAddr (P : Program) (t : TypeId) (x ix : Value) : Option Value :=
  match P.underlying t, x, ix with
  | some (.array len elem), .pointer (some ⟨b, o, none⟩), .int _ i =>
    match sizeIn P elem with
    | some sz => if decide (0 ≤ i) && decide (i < (len : Int)) then some (.pointer (some ((⟨b, o, none⟩ : Addr).add (i.toNat * sz)))) else none
    | none => none
  | some (.slice elem), .slice (some ⟨b, o, none⟩) len _, .int _ i =>
    match sizeIn P elem with
    | some sz => if decide (0 ≤ i) && decide (i < (len : Int)) then some (.pointer (some ((⟨b, o, none⟩ : Addr).add (i.toNat * sz)))) else none
    | none => none
  | _, _, _ => none
theorem Wf.slice_ptr {b o l c : Nat} {s : Option Nat} (h : Wf n (.slice (some ⟨b, o, s⟩) l c)) : Wf n (.pointer (some ⟨b, o, s⟩)) := by
  intro η η' ha
  have := h η η' ha
  simp [rA] at this
  simp [rA, this]
theorem indexAddr_sound {t : TypeId} {x ix v : Value} (hx : Wf n x) (he : evIndexAddr P t x ix = some v) (W : World) :
    Wf n v ∧ (Instr.indexAt t (rV η x) (rV η ix)).run P W = .ok (rV η v) W := by
  unfold evIndexAddr at he
  split at he
  · rename_i len elem b o k i hu
    split at he
    · rename_i sz hs
      split at he
      · rename_i hc
        simp only [Bool.and_eq_true, decide_eq_true_eq] at hc
        simp only [Option.some.injEq] at he; subst he
        refine ⟨hx.add, ?_⟩
        simp only [Instr.indexAt, asIntOf, rV_int, Sem.run_bind, Sem.run_pure, Result.andThen_ok, run_underlying hu, rV_psome, rA_mk, Instr.sureAddr]
        rw [if_pos ⟨hc.1, hc.2⟩]
        simp only [Sem.run_bind, run_sizeOf hs W, Result.andThen_ok, Sem.run_pure, rA_add]
      · simp at he
    · simp at he
  · rename_i elem b o len cap k i hu
    split at he
    · rename_i sz hs
      split at he
      · rename_i hc
        simp only [Bool.and_eq_true, decide_eq_true_eq] at hc
        simp only [Option.some.injEq] at he; subst he
        refine ⟨hx.slice_ptr.add, ?_⟩
        simp only [Instr.indexAt, asIntOf, rV_int, Sem.run_bind, Sem.run_pure, Result.andThen_ok, run_underlying hu, rV_ssome, rV_psome, rA_mk]
        rw [if_pos ⟨hc.1, hc.2⟩]
        simp only [Sem.run_bind, run_sizeOf hs W, Result.andThen_ok, Sem.run_pure, rA_add]
      · simp at he
    · simp at he
  · simp at he

/-! ### Values built -/
theorem foldl_map (f : Value → Value) : ∀ (l : List (Value × Nat)) (off : Nat) (cs : Array Value),
    (l.foldl (fun cs (x : Value × Nat) => cs.setIfInBounds (off + x.2) x.1) cs).map f = (l.map fun x => (f x.1, x.2)).foldl (fun cs (x : Value × Nat) => cs.setIfInBounds (off + x.2) x.1) (cs.map f)
  | [], _, _ => rfl
  | x :: l, off, cs => by
    simp only [List.foldl_cons, List.map_cons]
    rw [foldl_map f l off]
    congr 1
    apply Array.ext'
    simp [List.map_set]
theorem fill_map (η : Env) (place : Nat → Option (Nat × Nat)) : ∀ (parts : List (Nat × Value)) (cs : Array Value),
    Instr.fill place (cs.map (rV η)) (parts.map fun p => (p.1, rV η p.2)) = (Instr.fill place cs parts).map (·.map (rV η))
  | [], cs => by simp [Instr.fill]
  | (i, v) :: rest, cs => by
    simp only [List.map_cons, Instr.fill]
    cases place i with
    | none => rfl
    | some p =>
      obtain ⟨off, size⟩ := p
      simp only [cells_rV, Array.size_map]
      split
      · rfl
      · rw [← fill_map η place rest]
        congr 1
        rw [← Array.foldl_toList, ← Array.foldl_toList, Array.toList_zipIdx, Array.toList_zipIdx, foldl_map]
        congr 1
        rw [Array.toList_map, List.zipIdx_map]
        rfl
theorem foldl_wf {m : Nat} : ∀ (l : List (Value × Nat)) (off : Nat) (cs : Array Value), WfL m cs.toList → (∀ x ∈ l, Wf m x.1) →
    WfL m (l.foldl (fun cs (x : Value × Nat) => cs.setIfInBounds (off + x.2) x.1) cs).toList
  | [], _, _, h, _ => h
  | x :: l, off, cs, h, hl => by
    refine foldl_wf l off _ ?_ fun y hy => hl y (List.mem_cons_of_mem _ hy)
    intro v hv
    rw [Array.toList_setIfInBounds] at hv
    rcases List.mem_or_eq_of_mem_set hv with hv | hv
    · exact h v hv
    · rw [hv]; exact hl x List.mem_cons_self
theorem fill_wf {m : Nat} (place : Nat → Option (Nat × Nat)) : ∀ (parts : List (Nat × Value)) (cs r : Array Value), WfL m cs.toList → (∀ p ∈ parts, Wf m p.2) →
    Instr.fill place cs parts = some r → WfL m r.toList
  | [], cs, r, h, _, he => by simp [Instr.fill] at he; subst he; exact h
  | (i, v) :: rest, cs, r, h, hp, he => by
    simp only [Instr.fill] at he
    cases hpl : place i with
    | none => rw [hpl] at he; simp at he
    | some p =>
      rw [hpl] at he
      obtain ⟨off, size⟩ := p
      dsimp only at he
      split at he
      · simp at he
      · refine fill_wf place rest _ r ?_ (fun p hp' => hp p (List.mem_cons_of_mem _ hp')) he
        rw [← Array.foldl_toList, Array.toList_zipIdx]
        refine foldl_wf _ off cs h fun x hx => ?_
        have := List.mem_zipIdx hx
        have hv := (hp (i, v) List.mem_cons_self).cells
        obtain ⟨-, -, h3⟩ := this
        rw [h3]; exact hv _ (List.getElem_mem _)
end
end Go.Proofs.Ytoanbjnhoggpjaa.Ev
