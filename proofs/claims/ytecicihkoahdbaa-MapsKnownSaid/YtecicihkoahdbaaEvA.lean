/-
  A closed call evaluated: regions that draw their order. What only reads memory is taken first; what is left goes in whatever order.
-/
import Derived.Test.YtecicihkoahdbaaEvC
import Derived.OrdersHeld
namespace Go.Proofs.Ytecicihkoahdbaa.Ev
set_option linter.unusedSimpArgs false
set_option linter.unusedVariables false
open Go Go.RowKit

/-! ### Whatever order: S holds behind each operation that is not late -/
def anyL (P : Program) (ops : Array Oper) (Q : Exit → Act → World → Prop) (S : World → Prop) (lo : Nat) : Nat → Array Bool → Act → World → Prop
  | 0, L, a, w => Region.ready .any ops L = [] ∧ Q .normal a w
  | k + 1, L, a, w => (Region.ready .any ops L = [] → Q .normal a w) ∧
      ∀ i, i ∈ Region.ready .any ops L → wpOp P ops Q i (fun a' w' => (i < lo → S w') ∧ anyL P ops Q S lo k (L.setIfInBounds i true) a' w') a w
theorem anyL_any {P : Program} {ops : Array Oper} {Q : Exit → Act → World → Prop} {S : World → Prop} {lo : Nat} : ∀ (k : Nat) (L : Array Bool) (a : Act) (w : World),
    anyL P ops Q S lo k L a w → wpAny P .any ops Q k L a w
  | 0, _, _, _, h => h
  | k + 1, L, a, w, h => ⟨h.1, fun i hi => wpOp_mono (fun a' w' h' => anyL_any k _ a' w' h'.2) (h.2 i hi)⟩
/-- Each operation from lo on waits for each one below lo. -/
def edge (ops : Array Oper) (j i : Nat) : Bool :=
  match ops[j]? with
  | some o => o.after.toList.any fun e => Region.binds .any e && decide (e.on = i)
  | none => true
def lateOk (ops : Array Oper) (lo : Nat) : Bool :=
  (List.range ops.size).all fun j => decide (j < lo) || (List.range lo).all fun i => edge ops j i
theorem edge_spec {ops : Array Oper} {i j : Nat} {o : Oper} (h : edge ops j i = true) (ho : ops[j]? = some o) : ∃ e ∈ o.after, Region.binds .any e = true ∧ e.on = i := by
  unfold edge at h
  rw [ho] at h
  simp only [List.any_eq_true, Bool.and_eq_true, decide_eq_true_eq] at h
  obtain ⟨e, he, h1, h2⟩ := h
  exact ⟨e, by simpa using he, h1, h2⟩
theorem lateOk_spec {ops : Array Oper} {lo i j : Nat} {o : Oper} (h : lateOk ops lo = true) (ho : ops[j]? = some o) (hj : lo ≤ j) (hi : i < lo) : ∃ e ∈ o.after, Region.binds .any e = true ∧ e.on = i := by
  simp only [lateOk, List.all_eq_true, List.mem_range, Bool.or_eq_true, decide_eq_true_eq] at h
  have hlt : j < ops.size := (Array.getElem?_eq_some_iff.1 ho).1
  exact edge_spec ((h j hlt).resolve_left (by omega) i hi) ho
section
variable {P : Program} {ops : Array Oper} {Q : Exit → Act → World → Prop} {S : World → Prop} {lo : Nat}
/-- One that may come up, and yields its value as long as S holds, is taken first. -/
theorem anyL_first {i : Nat} {oi : Oper} {v : Value} (hi : ops[i]? = some oi) (hilo : i < lo) (hlate : lateOk ops lo = true) (hs : Region.noSelect ops = true)
    (hQ : ∀ c a w, Q (.panic c) (a.put oi.dst v) w → Q (.panic c) a w) : ∀ (k : Nat) (L : Array Bool) (a : Act) (w : World),
      (∀ j oj, ops[j]? = some oj → j ≠ i → L.getD j true = false → (∀ e ∈ oj.after, Region.binds .any e = true → e.on ≠ i) → oi.apart ops oj = true) →
      i ∈ Region.ready .any ops L → YieldsIf P ops S oi v a → S w →
      anyL P ops Q S lo k (L.setIfInBounds i true) (a.put oi.dst v) w → anyL P ops Q S lo (k + 1) L a w := by
  intro k
  induction k with
  | zero =>
    intro L a w _ hr hy hS H
    refine ⟨fun h => (by rw [h] at hr; cases hr), fun j hj => ?_⟩
    by_cases hji : j = i
    · rw [hji]; exact hy.wpOp hi hS ⟨fun _ => hS, H⟩
    · have := ready_mono hj hji
      rw [H.1] at this
      cases this
  | succ k ih =>
    intro L a w hfree hr hy hS H
    refine ⟨fun h => (by rw [h] at hr; cases hr), fun j hj => ?_⟩
    by_cases hji : j = i
    · rw [hji]; exact hy.wpOp hi hS ⟨fun _ => hS, H⟩
    have hjr := mem_ready.1 hj
    obtain ⟨hjun, oj, hoj, hall⟩ := hjr
    have hiun := (mem_ready.1 hr).1
    have hnot : ∀ e ∈ oj.after, Region.binds .any e = true → e.on ≠ i := by
      intro e he hb heq
      have h1 := hall e he hb
      rw [heq] at h1
      rcases Nat.lt_or_ge i L.size with h' | h'
      · simp [h'] at hiun h1; rw [hiun] at h1; cases h1
      · simp [Array.getElem?_eq_none h'] at h1
    have hjlo : j < lo := by
      rcases Nat.lt_or_ge j lo with h' | h'
      · exact h'
      · obtain ⟨e, he, hb, heq⟩ := lateOk_spec hlate hoj h' hilo
        exact absurd heq (hnot e he hb)
    have hstep := wpOp_putIf hoj (hfree j oj hoj hji hjun hnot) (fun cs b => Region.noSelect_spec hs i oi cs b hi) (fun cs b => Region.noSelect_spec hs j oj cs b hoj) hQ hy (H.2 j (ready_mono hj hji))
    refine wpOp_mono (fun a' w' h3 => ⟨fun _ => h3.2.1 hjlo, ih (L.setIfInBounds j true) a' w' ?_ (ready_mono hr (Ne.symm hji)) h3.1 (h3.2.1 hjlo) ?_⟩) hstep
    · intro q oq hq hqi hun hno
      refine hfree q oq hq hqi ?_ hno
      by_cases hjq : j = q
      · rw [← hjq]; exact hjun
      · rw [getD_set_ne true hjq] at hun; exact hun
    · rw [Array.setIfInBounds_comm _ _ hji]
      exact h3.2.2
end

/-! ### Equality of what is kept -/
mutual
def veq : Nat → Value → Value → Bool
  | _, .bool a, .bool b => decide (a = b)
  | _, .int k a, .int j b => decide (k = j) && decide (a = b)
  | _, .string a, .string b => decide (a.data.toList = b.data.toList)
  | _, .pointer a, .pointer b => decide (a = b)
  | _, .slice a n c, .slice b m d => decide (a = b) && decide (n = m) && decide (c = d)
  | _, .map a, .map b => decide (a = b)
  | _, .nilFunc, .nilFunc => true
  | _, .nilIface, .nilIface => true
  | k + 1, .iface t v, .iface u w => decide (t = u) && veq k v w
  | k + 1, .agg a, .agg b => veqL k a.toList b.toList
  | k + 1, .tuple a, .tuple b => veqL k a.toList b.toList
  | k + 1, .func f a b, .func g c d => decide (f = g) && veqL k a.toList c.toList && veqL k b.toList d.toList
  | _, _, _ => false
def veqL : Nat → List Value → List Value → Bool
  | _, [], [] => true
  | k + 1, v :: l, w :: r => veq k v w && veqL k l r
  | _, _, _ => false
end

theorem ba_eq {a b : ByteArray} (h : a.data.toList = b.data.toList) : a = b := by
  cases a with | mk x => cases b with | mk y =>
  have : x = y := Array.ext' h
  rw [this]
set_option maxHeartbeats 2000000 in
theorem veq_spec : ∀ k, (∀ a b, veq k a b = true → a = b) ∧ (∀ l r, veqL k l r = true → l = r) := by
  intro k
  induction k with
  | zero =>
    refine ⟨fun a b h => ?_, fun l r h => ?_⟩
    · cases a <;> cases b <;> simp only [veq, Bool.false_eq_true, Bool.and_eq_true, decide_eq_true_eq] at h <;> (first | rfl | (simp_all; done) | (rw [ba_eq h]))
    · cases l <;> cases r <;> simp [veqL] at h ⊢
  | succ k ih =>
    obtain ⟨ih1, ih2⟩ := ih
    refine ⟨fun a b h => ?_, fun l r h => ?_⟩
    · cases a <;> cases b <;> simp only [veq, Bool.false_eq_true, Bool.and_eq_true, decide_eq_true_eq] at h <;> (first | rfl | (rw [ba_eq h]; done) | skip)
      case bool.bool => rw [h]
      case int.int => rw [h.1, h.2]
      case pointer.pointer => rw [h]
      case slice.slice => rw [h.1.1, h.1.2, h.2]
      case map.map => rw [h]
      case func.func => rw [h.1.1, Array.ext' (ih2 _ _ h.1.2), Array.ext' (ih2 _ _ h.2)]
      case iface.iface => rw [h.1, ih1 _ _ h.2]
      case agg.agg => rw [Array.ext' (ih2 _ _ h)]
      case tuple.tuple => rw [Array.ext' (ih2 _ _ h)]
    · cases l with
      | nil => cases r <;> simp [veqL] at h ⊢
      | cons v l => cases r with
        | nil => simp [veqL] at h
        | cons w r =>
          simp only [veqL, Bool.and_eq_true] at h
          rw [ih1 _ _ h.1, ih2 _ _ h.2]
def eeqL : List MapEntry → List MapEntry → Bool
  | [], [] => true
  | e :: l, f :: r => veq 1000 e.key f.key && veq 1000 e.val f.val && decide (e.born = f.born) && eeqL l r
  | _, _ => false
theorem eeqL_spec : ∀ {l r : List MapEntry}, eeqL l r = true → l = r
  | [], [], _ => rfl
  | [], _ :: _, h => by simp [eeqL] at h
  | _ :: _, [], h => by simp [eeqL] at h
  | e :: l, f :: r, h => by
    simp only [eeqL, Bool.and_eq_true, decide_eq_true_eq] at h
    obtain ⟨⟨⟨h1, h2⟩, h3⟩, h4⟩ := h
    rw [eeqL_spec h4]
    congr 1
    cases e; cases f
    simp only at h1 h2 h3
    rw [(veq_spec _).1 _ _ h1, (veq_spec _).1 _ _ h2, h3]
def aeq : AObj → AObj → Bool
  | .dead, .dead => true
  | .cells a e o, .cells b f p => veqL 10000 a b && decide (e = f) && decide (o = p)
  | .obj (.map es c), .obj (.map fs d) => eeqL es.toList fs.toList && decide (c = d)
  | _, _ => false
theorem aeq_spec {x y : AObj} (h : aeq x y = true) : x = y := by
  unfold aeq at h
  split at h
  · rfl
  · simp only [Bool.and_eq_true, decide_eq_true_eq] at h
    rw [(veq_spec _).2 _ _ h.1.1, h.1.2, h.2]
  · simp only [Bool.and_eq_true, decide_eq_true_eq] at h
    rw [Array.ext' (eeqL_spec h.1), h.2]
  · simp at h

/-! ### The evaluation of a region that draws -/
def restrict (H : Tr) : List Nat → Tr
  | [] => .nil
  | b :: l => if b < most then Tr.set depth (restrict H l) b (H.get b) else restrict H l
theorem restrict_get (H : Tr) : ∀ (B : List Nat) (m : Nat), (restrict H B).get m = .dead ∨ (m ∈ B ∧ (restrict H B).get m = H.get m)
  | [], m => .inl rfl
  | b :: l, m => by
    unfold restrict
    split
    · rename_i hb
      rw [get_set hb]
      split
      · rename_i e; rw [e]; exact .inr ⟨List.mem_cons_self, rfl⟩
      · exact (restrict_get H l m).imp id fun h => ⟨List.mem_cons_of_mem _ h.1, h.2⟩
    · exact (restrict_get H l m).imp id fun h => ⟨List.mem_cons_of_mem _ h.1, h.2⟩
def keepsB (Hq H : Tr) (B : List Nat) : Bool := B.all fun b => aeq (Hq.get b) (H.get b)

/-- Which blocks an operation reads. -/
def readsOf (ρ : Operand → Value) : Op → List Nat
  | .load _ x => match ρ x with
    | .pointer (some a) => [a.block]
    | _ => []
  | .lookup _ x _ _ => match ρ x with
    | .map (some r) => [r]
    | _ => []
  | .convert _ _ x => match ρ x with
    | .slice (some a) _ _ => [a.block]
    | _ => []
  | .slice _ x _ _ _ => match ρ x with
    | .slice (some a) _ c => if c < 2 ^ 70 then [] else [a.block]
    | _ => []
  | .call c => match c.callee, c.args.toList.map ρ with
    | .builtin .len, [.map (some r)] => [r]
    | _, _ => []
  | _ => []
/-- A first way through the region, calls left out: which blocks are read. (A guess: nothing hangs on its being right.) -/
def guessB (P : Program) (n0 : Nat) (all : Array Oper) : List Oper → St → List Nat → List Nat
  | [], _, B => B
  | o :: rest, s, B =>
    if Region.wanted o (yieldC all s) then
      match evQ P n0 s.H s.ev o with
      | some v => guessB P n0 all rest (s.put o.dst v) ((readsOf s.ev o.op).filter (fun b => !B.contains b) ++ B)
      | none => guessB P n0 all rest (s.put o.dst undef) B
    else guessB P n0 all rest (s.put o.dst undef) B
/-- From which operation on each waits for all below. -/
def lateFrom (ops : Array Oper) : Nat → Nat
  | 0 => 0
  | k + 1 => if lateOk ops k then lateFrom ops k else k + 1

def firstQ (P : Program) (n0 : Nat) (Hq : Tr) (ops : Array Oper) (lo : Nat) (L : Array Bool) (s : St) : List Nat → Option (Nat × Oper × Value)
  | [] => none
  | i :: rest => match ops[i]? with
    | none => firstQ P n0 Hq ops lo L s rest
    | some o =>
      if decide (i < lo) && Region.free .any ops L i then
        if Region.wanted o (yieldC ops s) then
          if o.op.operands.toList.all (okOp n0) then
            match evQ P n0 Hq s.ev o with
            | some v => some (i, o, v)
            | none => firstQ P n0 Hq ops lo L s rest
          else firstQ P n0 Hq ops lo L s rest
        else some (i, o, undef)
      else firstQ P n0 Hq ops lo L s rest

def evDraw (P : Program) (n0 : Nat) (call : Caller) (ops : Array Oper) (lo : Nat) (Hq : Tr) (B : List Nat) : Nat → Array Bool → St → Option (List St)
  | 0, L, s => match Region.ready .any ops L with
    | [] => some [s]
    | _ => none
  | k + 1, L, s => match Region.ready .any ops L with
    | [] => some [s]
    | i :: is => match firstQ P n0 Hq ops lo L s (i :: is) with
      | some (i, o, v) => evDraw P n0 call ops lo Hq B k (L.setIfInBounds i true) (s.put o.dst v)
      | none => bindL (fun j => match ops[j]? with
        | none => none
        | some o => match stepOp P n0 call ops o s with
          | none => none
          | some ss => bindL (fun s' => if decide (lo ≤ j) || keepsB Hq s'.H B then evDraw P n0 call ops lo Hq B k (L.setIfInBounds j true) s' else none) ss) (i :: is)
def evRegion (P : Program) (n0 : Nat) (call : Caller) (ops : Array Oper) (s : St) : Option (List St) :=
  let lo := lateFrom ops ops.size
  let B := guessB P n0 ops (ops.toList.take lo) s []
  if lateOk ops lo && Region.noSelect ops then evDraw P n0 call ops lo (restrict s.H B) B ops.size (Array.replicate ops.size false) s else none

section
variable {P : Program} {n0 : Nat} {w0 : World} {call : Caller} {ops : Array Oper} {lo : Nat} {Hq : Tr} {B : List Nat} {n1 : Nat} {η1 : Env}

theorem firstQ_spec {L : Array Bool} {s : St} : ∀ {l : List Nat} {i : Nat} {o : Oper} {v : Value}, firstQ P n0 Hq ops lo L s l = some (i, o, v) →
    i ∈ l ∧ ops[i]? = some o ∧ i < lo ∧ Region.free .any ops L i = true ∧
      ((Region.wanted o (yieldC ops s) = true ∧ (∀ x ∈ o.op.operands, okOp n0 x = true) ∧ evQ P n0 Hq s.ev o = some v) ∨ (Region.wanted o (yieldC ops s) = false ∧ v = undef))
  | [], i, o, v, h => by simp [firstQ] at h
  | j :: l, i, o, v, h => by
    have rec' : firstQ P n0 Hq ops lo L s l = some (i, o, v) → _ := fun h' =>
      let ⟨h1, h2⟩ := firstQ_spec h'
      (⟨List.mem_cons_of_mem _ h1, h2⟩ : i ∈ j :: l ∧ ops[i]? = some o ∧ i < lo ∧ Region.free .any ops L i = true ∧
      ((Region.wanted o (yieldC ops s) = true ∧ (∀ x ∈ o.op.operands, okOp n0 x = true) ∧ evQ P n0 Hq s.ev o = some v) ∨ (Region.wanted o (yieldC ops s) = false ∧ v = undef)))
    unfold firstQ at h
    split at h
    · exact rec' h
    · rename_i q hq
      split at h
      · rename_i hc
        simp only [Bool.and_eq_true, decide_eq_true_eq] at hc
        split at h
        · rename_i hw
          split at h
          · rename_i hok
            simp only [List.all_eq_true] at hok
            split at h
            · rename_i u hu
              simp only [Option.some.injEq, Prod.mk.injEq] at h
              obtain ⟨rfl, rfl, rfl⟩ := h
              exact ⟨List.mem_cons_self, hq, hc.1, hc.2, .inl ⟨hw, fun x hx => hok x (by simpa using hx), hu⟩⟩
            · exact rec' h
          · exact rec' h
        · rename_i hw
          simp only [Option.some.injEq, Prod.mk.injEq] at h
          obtain ⟨rfl, rfl, rfl⟩ := h
          exact ⟨List.mem_cons_self, hq, hc.1, hc.2, .inr ⟨by simpa using hw, rfl⟩⟩
      · exact rec' h

theorem Inq.lift {n : Nat} {η : Env} {w : World} (h : Inq P n0 Hq n1 η1 w) (ha : Agree n1 η1 η) (hn : n1 ≤ n) : Inq P n0 Hq n η w := by
  refine ⟨Nat.le_trans h.n0n hn, fun i hi => ?_, fun i hi => ?_, fun i hi => h.beyond i (by omega)⟩
  · rw [(ha i (Nat.lt_of_lt_of_le hi h.n0n)).1]; exact h.fix i hi
  · rcases Nat.lt_or_ge i n1 with h' | h'
    · exact (h.at' i h').agree ha h' hn
    · rw [h.beyond i h']; trivial
theorem keepsB_spec {H' : Tr} (h : keepsB Hq H' B = true) {b : Nat} (hb : b ∈ B) : Hq.get b = H'.get b := by
  simp only [keepsB, List.all_eq_true] at h
  exact aeq_spec (h b hb)
/-- What is kept of memory is known behind an operation that has not turned it. -/
theorem Inq.back {H' : Tr} {n' : Nat} {η' : Env} {w w' : World} (h : Inq P n0 Hq n1 η1 w) (hB : ∀ m, Hq.get m = .dead ∨ m ∈ B) (hk : keepsB Hq H' B = true) (h' : Inv P n0 w0 H' n' η' w') (ha : Agree n1 η1 η') (hn : n1 ≤ n') :
    Inq P n0 Hq n1 η1 w' := by
  refine ⟨h.n0n, h.fix, fun i hi => ?_, h.beyond⟩
  rcases hB i with hd | hm
  · rw [hd]; trivial
  · have hold := h.at' i hi
    have hnew := h'.at' i (by omega)
    rw [← keepsB_spec hk hm] at hnew
    cases hx : Hq.get i with
    | dead => trivial
    | cells cs e op =>
      rw [hx] at hold hnew
      obtain ⟨hw, -⟩ := hold
      obtain ⟨-, ex, fz, g1, g2, g3, g4⟩ := hnew
      rw [(ha i hi).1, hw.map ha] at g1
      rw [(ha i hi).2] at g4
      exact ⟨hw, ex, fz, g1, g2, g3, g4⟩
    | obj o =>
      rw [hx] at hold hnew
      obtain ⟨hw, hn', -⟩ := hold
      obtain ⟨-, -, g⟩ := hnew
      rw [(ha i hi).1, hw _ _ ha] at g
      exact ⟨hw, hn', g⟩
theorem ready_unlisted {L : Array Bool} {i : Nat} (h : i ∈ Region.ready .any ops L) : L.getD i true = false := (mem_ready.1 h).1
theorem listed_set {L : Array Bool} {i j : Nat} (h : L.getD i true = true) : (L.setIfInBounds j true).getD i true = true := by
  by_cases hij : j = i
  · subst hij
    by_cases hj : j < L.size
    · simp [hj]
    · rw [Array.getD_eq_getD_getElem?, Array.getElem?_eq_none (by simp; omega)]; rfl
  · rw [getD_set_ne true hij]; exact h

theorem evDraw_sound (hc : CallOk P n0 w0 call) (hlate : lateOk ops lo = true) (hsel : Region.noSelect ops = true) (hB : ∀ m, Hq.get m = .dead ∨ m ∈ B) {Q : Exit → Act → World → Prop} (hQp : ∀ c a b w, Q (.panic c) a w → Q (.panic c) b w) :
    ∀ (k : Nat) (L : Array Bool) (s : St) (ss : List St) (η : Env) (a : Act) (W : World), evDraw P n0 call ops lo Hq B k L s = some ss → Inv P n0 w0 s.H s.n η W → Fr η s a → Agree n1 η1 η → n1 ≤ s.n →
      (Inq P n0 Hq n1 η1 W ∨ ∀ i, i < lo → L.getD i true = true) →
      (∀ s' ∈ ss, ∀ η' a' W', Agree s.n η η' → s.n ≤ s'.n → Inv P n0 w0 s'.H s'.n η' W' → Fr η' s' a' → Q .normal a' W') → anyL P ops Q (fun w => Inq P n0 Hq n1 η1 w) lo k L a W := by
  intro k
  induction k with
  | zero =>
    intro L s ss η a W he hI hF ha hn hS hQ
    unfold evDraw at he
    split at he
    · rename_i hr
      simp only [Option.some.injEq] at he; subst he
      exact ⟨hr, hQ s (List.mem_singleton_self _) η a W (.refl _ _) (Nat.le_refl _) hI hF⟩
    · simp at he
  | succ k ih =>
    intro L s ss η a W he hI hF ha hn hS hQ
    unfold evDraw at he
    split at he
    · rename_i hr
      simp only [Option.some.injEq] at he; subst he
      exact ⟨fun _ => hQ s (List.mem_singleton_self _) η a W (.refl _ _) (Nat.le_refl _) hI hF, by rw [hr]; simp⟩
    · rename_i i0 is hr
      split at he
      · rename_i i o v hf
        obtain ⟨f1, f2, f3, f4, f5⟩ := firstQ_spec hf
        rw [← hr] at f1
        have hSw : Inq P n0 Hq n1 η1 W := hS.resolve_right fun hall => by
          have h1 := hall i f3
          rw [ready_unlisted f1] at h1
          cases h1
        have hy : YieldsIf P ops (fun w => Inq P n0 Hq n1 η1 w) o (rV η v) a ∧ Wf s.n v := by
          rcases f5 with ⟨g1, g2, g3⟩ | ⟨g1, rfl⟩
          · refine ⟨.inl ⟨by rw [hF.yielded ops]; exact g1, fun w hw => ?_⟩, ?_⟩
            · exact (evQ_sound (hw.lift ha hn) (hF.good hI.fix hI.n0n) g2 g3).2
            · exact (evQ_sound (hSw.lift ha hn) (hF.good hI.fix hI.n0n) g2 g3).1
          · exact ⟨.inr ⟨by rw [hF.yielded ops]; exact g1, by simp⟩, Wf.undef _⟩
        refine anyL_first f2 f3 hlate hsel (fun c a w h => hQp c _ _ w h) k L a W (Region.free_spec f2 f4) f1 hy.1 hSw ?_
        refine ih (L.setIfInBounds i true) (s.put o.dst v) ss η _ W he (by simpa using hI) (hF.put hy.2) ha (by simpa using hn) (.inl hSw) fun s' hs' η' a' W' ha' hn' => ?_
        exact hQ s' hs' η' a' W' (by simpa using ha') (by simpa using hn')
      · refine ⟨fun h0 => by rw [h0] at hr; simp at hr, fun j hj => ?_⟩
        have hjl : j ∈ i0 :: is := by rw [← hr]; exact hj
        obtain ⟨u, hu, hsub⟩ := bindL_mem he j hjl
        unfold wpOp
        cases ho : ops[j]? with
        | none => rw [ho] at hu; simp at hu
        | some o =>
          rw [ho] at hu
          dsimp only at hu ⊢
          cases hst : stepOp P n0 call ops o s with
          | none => rw [hst] at hu; simp at hu
          | some s1 =>
            rw [hst] at hu
            dsimp only at hu
            have key := stepOp_sound (all := ops) hc hI hF hst (Q := Q) (K := fun a' w' => (j < lo → Inq P n0 Hq n1 η1 w') ∧ anyL P ops Q (fun w => Inq P n0 Hq n1 η1 w) lo k (L.setIfInBounds j true) a' w') ?_
            · exact key
            · intro s' hs' η' a' W' ha' hn' hI' hF'
              obtain ⟨u2, hu2, hsub2⟩ := bindL_mem hu s' hs'
              split at hu2
              · rename_i hcond
                have ha2 : Agree n1 η1 η' := ha.trans ha' hn
                have hS' : (j < lo → Inq P n0 Hq n1 η1 W') ∧ (Inq P n0 Hq n1 η1 W' ∨ ∀ i, i < lo → (L.setIfInBounds j true).getD i true = true) := by
                  by_cases hjlo : j < lo
                  · have hSw : Inq P n0 Hq n1 η1 W := hS.resolve_right fun hall => by
                      have h1 := hall j hjlo
                      rw [ready_unlisted hj] at h1
                      cases h1
                    have hk : keepsB Hq s'.H B = true := by
                      simp only [Bool.or_eq_true, decide_eq_true_eq] at hcond
                      exact hcond.resolve_left (by omega)
                    have := hSw.back hB hk hI' ha2 (Nat.le_trans hn hn')
                    exact ⟨fun _ => this, .inl this⟩
                  · refine ⟨fun h => absurd h hjlo, .inr fun i hi => ?_⟩
                    obtain ⟨-, o2, ho2, hall⟩ := mem_ready.1 hj
                    rw [ho] at ho2
                    simp only [Option.some.injEq] at ho2; subst ho2
                    obtain ⟨e, he1, he2, he3⟩ := lateOk_spec hlate ho (by omega) hi
                    have := hall e he1 he2
                    rw [he3] at this
                    refine listed_set ?_
                    rcases Nat.lt_or_ge i L.size with h' | h'
                    · simp [h'] at this ⊢; exact this
                    · simp [Array.getElem?_eq_none h'] at this
                refine ⟨hS'.1, ih (L.setIfInBounds j true) s' u2 η' a' W' hu2 hI' hF' ha2 (Nat.le_trans hn hn') hS'.2 fun s2 hs2 η2 a2 W2 ha3 hn3 hI2 hF2 => ?_⟩
                exact hQ s2 (hsub s2 (hsub2 s2 hs2)) η2 a2 W2 (ha'.trans ha3 hn') (Nat.le_trans hn' hn3) hI2 hF2
              · simp at hu2

theorem evRegion_sound (hm : P.follows .mixedOrders = true) (hc : CallOk P n0 w0 call) {Q : Exit → Act → World → Prop} (hQp : ∀ c a b w, Q (.panic c) a w → Q (.panic c) b w) {s : St} {ss : List St} {η : Env} {a : Act} {W : World} {id : Nat}
    (he : evRegion P n0 call ops s = some ss) (hI : Inv P n0 w0 s.H s.n η W) (hF : Fr η s a)
    (hQ : ∀ s' ∈ ss, ∀ η' a' W', Agree s.n η η' → s.n ≤ s'.n → Inv P n0 w0 s'.H s'.n η' W' → Fr η' s' a' → Q .normal a' W') : (Code.region id ops true).wp P Q a W := by
  unfold evRegion at he
  dsimp only at he
  split at he
  case isFalse => simp at he
  rename_i hcond
  simp only [Bool.and_eq_true] at hcond
  have hI' : Inv P n0 w0 s.H s.n η W.drew := hI.drew
  have hr := restrict_get s.H (guessB P n0 ops (List.take (lateFrom ops ops.size) ops.toList) s [])
  have hS : Inq P n0 (restrict s.H (guessB P n0 ops (List.take (lateFrom ops ops.size) ops.toList) s [])) s.n η W.drew := by
    refine ⟨hI.n0n, hI.fix, fun i hi => ?_, fun i hi => ?_⟩
    · rcases hr i with hd | ⟨-, hd⟩
      · rw [hd]; trivial
      · rw [hd]; exact hI'.at' i hi
    · rcases hr i with hd | ⟨-, hd⟩
      · exact hd
      · rw [hd]; exact hI.beyond i hi
  have key := evDraw_sound (w0 := w0) (n1 := s.n) (η1 := η) hc hcond.1 hcond.2 (fun m => (hr m).imp (fun h => h) fun h => h.1) hQp _ _ s ss η a W.drew he hI' hF (.refl _ _) (Nat.le_refl _) (.inl hS) hQ
  exact wp_region_any hm (anyL_any _ _ _ _ key)
end
end Go.Proofs.Ytecicihkoahdbaa.Ev
