/-
  A closed call evaluated: regions that draw their order. What only reads memory is taken first; what is left goes in whatever order.
-/
import Derived.Test.YtoanbjnhoggpjaaEvG
import Derived.OrdersHeld
namespace Go.Proofs.Ytoanbjnhoggpjaa.Ev
set_option linter.unusedSimpArgs false
set_option linter.unusedVariables false
set_option maxRecDepth 100000
open Go Go.RowKit

/-! ### Whatever order: S holds behind each operation that is not late -/
def anyL (P : Program) (ops : Array Oper) (Q : Exit → Act → World → Prop) (S : World → Prop) (lo : Nat) : Nat → Array Bool → Act → World → Prop
  | 0, L, a, w => Region.ready .any ops L = [] ∧ Q .normal a w
  | k + 1, L, a, w => (Region.ready .any ops L = [] → Q .normal a w) ∧
      ∀ i, i ∈ Region.ready .any ops L → wpOp P ops Q i (fun a' w' => (i < lo → S w → S w') ∧ anyL P ops Q S lo k (L.setIfInBounds i true) a' w') a w
theorem anyL_any {P : Program} {ops : Array Oper} {Q : Exit → Act → World → Prop} {S : World → Prop} {lo : Nat} : ∀ (k : Nat) (L : Array Bool) (a : Act) (w : World),
    anyL P ops Q S lo k L a w → wpAny P .any ops Q k L a w
  | 0, _, _, _, h => h
  | k + 1, L, a, w, h => ⟨h.1, fun i hi => wpOp_mono (fun a' w' h' => anyL_any k _ a' w' h'.2) (h.2 i hi)⟩
/-- One operation waits for another, be it by way of others. -/
inductive Anc (ops : Array Oper) : Nat → Nat → Prop
  | direct {j : Nat} {o : Oper} {e : Edge} : ops[j]? = some o → e ∈ o.after → Region.binds .any e = true → Anc ops j e.on
  | trans {j i : Nat} {o : Oper} {e : Edge} : ops[j]? = some o → e ∈ o.after → Region.binds .any e = true → Anc ops e.on i → Anc ops j i
/-- What is listed has all listed for which it waits. -/
def Down (ops : Array Oper) (L : Array Bool) : Prop := ∀ m o, ops[m]? = some o → L.getD m false = true → ∀ e ∈ o.after, Region.binds .any e = true → L.getD e.on false = true
theorem Down.set {ops : Array Oper} {L : Array Bool} (h : Down ops L) {i : Nat} (hi : i ∈ Region.ready .any ops L) : Down ops (L.setIfInBounds i true) := by
  intro m o ho hm e he hb
  refine getD_set_true ?_
  by_cases hmi : i = m
  · subst hmi
    obtain ⟨-, o', ho', hall⟩ := mem_ready.1 hi
    rw [ho] at ho'
    simp only [Option.some.injEq] at ho'; subst ho'
    exact hall e he hb
  · rw [getD_set_ne false hmi] at hm
    exact h m o ho hm e he hb
theorem Down.anc {ops : Array Oper} {L : Array Bool} (h : Down ops L) {j i : Nat} (ha : Anc ops j i) : L.getD j false = true → L.getD i false = true := by
  induction ha with
  | direct ho he hb => exact fun hj => h _ _ ho hj _ he hb
  | trans ho he hb _ ih => exact fun hj => ih (h _ _ ho hj _ he hb)
theorem ready_anc {ops : Array Oper} {L : Array Bool} (hd : Down ops L) {j i : Nat} (hr : j ∈ Region.ready .any ops L) (ha : Anc ops j i) : L.getD i false = true := by
  obtain ⟨-, o, ho, hall⟩ := mem_ready.1 hr
  cases ha with
  | direct ho' he hb =>
    rw [ho] at ho'
    simp only [Option.some.injEq] at ho'; subst ho'
    exact hall _ he hb
  | trans ho' he hb h2 =>
    rw [ho] at ho'
    simp only [Option.some.injEq] at ho'; subst ho'
    exact hd.anc h2 (hall _ he hb)
theorem unlisted_ne {L : Array Bool} {i : Nat} (h1 : L.getD i true = false) (h2 : L.getD i false = true) : False := by
  rcases Nat.lt_or_ge i L.size with h' | h'
  · simp [h'] at h1 h2; rw [h1] at h2; cases h2
  · simp [Array.getElem?_eq_none h'] at h2
section
variable {P : Program} {ops : Array Oper} {Q : Exit → Act → World → Prop} {S : World → Prop} {lo : Nat}
/-- One that may come up, and yields its value as long as S holds, is taken first. -/
theorem anyL_first {i : Nat} {oi : Oper} {v : Value} (hi : ops[i]? = some oi) (hlate : ∀ j, lo ≤ j → j < ops.size → Anc ops j i) (hs : Region.noSelect ops = true)
    (hap : ∀ j oj, ops[j]? = some oj → j ≠ i → oi.apart ops oj = true ∨ Anc ops j i ∨ Anc ops i j)
    (hQ : ∀ c a w, Q (.panic c) (a.put oi.dst v) w → Q (.panic c) a w) : ∀ (k : Nat) (L : Array Bool) (a : Act) (w : World),
      i ∈ Region.ready .any ops L → Down ops L → YieldsIf P ops S oi v a → S w →
      anyL P ops Q S lo k (L.setIfInBounds i true) (a.put oi.dst v) w → anyL P ops Q S lo (k + 1) L a w := by
  intro k
  induction k with
  | zero =>
    intro L a w hr _ hy hS H
    refine ⟨fun h => (by rw [h] at hr; cases hr), fun j hj => ?_⟩
    by_cases hji : j = i
    · rw [hji]; exact hy.wpOp hi hS ⟨fun _ h => h, H⟩
    · have := ready_mono hj hji
      rw [H.1] at this
      cases this
  | succ k ih =>
    intro L a w hr hD hy hS H
    refine ⟨fun h => (by rw [h] at hr; cases hr), fun j hj => ?_⟩
    by_cases hji : j = i
    · rw [hji]; exact hy.wpOp hi hS ⟨fun _ h => h, H⟩
    obtain ⟨hjun, oj, hoj, hall⟩ := mem_ready.1 hj
    have hiun := (mem_ready.1 hr).1
    have hna : ¬ Anc ops j i := fun h => unlisted_ne hiun (ready_anc hD hj h)
    have hapart : oi.apart ops oj = true := (hap j oj hoj hji).resolve_right fun h => h.elim hna fun h => unlisted_ne hjun (ready_anc hD hr h)
    have hjlo : j < lo := by
      rcases Nat.lt_or_ge j lo with h' | h'
      · exact h'
      · exact absurd (hlate j h' (Array.getElem?_eq_some_iff.1 hoj).1) hna
    have hstep := wpOp_putIf hoj hapart (fun cs b => Region.noSelect_spec hs i oi cs b hi) (fun cs b => Region.noSelect_spec hs j oj cs b hoj) hQ hy (H.2 j (ready_mono hj hji))
    refine wpOp_mono (fun a' w' h3 => ⟨fun _ _ => h3.2.1 hjlo hS, ih (L.setIfInBounds j true) a' w' (ready_mono hr (Ne.symm hji)) (hD.set hj) h3.1 (h3.2.1 hjlo hS) ?_⟩) hstep
    rw [Array.setIfInBounds_comm _ _ hji]
    exact h3.2.2
/-- One that yields its value whatever memory holds is taken first, S or not. -/
theorem anyL_firstP {i : Nat} {oi : Oper} {v : Value} (hi : ops[i]? = some oi) (hs : Region.noSelect ops = true)
    (hap : ∀ j oj, ops[j]? = some oj → j ≠ i → oi.apart ops oj = true ∨ Anc ops j i ∨ Anc ops i j)
    (hQ : ∀ c a w, Q (.panic c) (a.put oi.dst v) w → Q (.panic c) a w) : ∀ (k : Nat) (L : Array Bool) (a : Act) (w : World),
      i ∈ Region.ready .any ops L → Down ops L → YieldsIf P ops (fun _ => True) oi v a →
      anyL P ops Q S lo k (L.setIfInBounds i true) (a.put oi.dst v) w → anyL P ops Q S lo (k + 1) L a w := by
  intro k
  induction k with
  | zero =>
    intro L a w hr _ hy H
    refine ⟨fun h => (by rw [h] at hr; cases hr), fun j hj => ?_⟩
    by_cases hji : j = i
    · rw [hji]; exact hy.wpOp hi trivial ⟨fun _ h => h, H⟩
    · have := ready_mono hj hji
      rw [H.1] at this
      cases this
  | succ k ih =>
    intro L a w hr hD hy H
    refine ⟨fun h => (by rw [h] at hr; cases hr), fun j hj => ?_⟩
    by_cases hji : j = i
    · rw [hji]; exact hy.wpOp hi trivial ⟨fun _ h => h, H⟩
    obtain ⟨hjun, oj, hoj, hall⟩ := mem_ready.1 hj
    have hiun := (mem_ready.1 hr).1
    have hna : ¬ Anc ops j i := fun h => unlisted_ne hiun (ready_anc hD hj h)
    have hapart : oi.apart ops oj = true := (hap j oj hoj hji).resolve_right fun h => h.elim hna fun h => unlisted_ne hjun (ready_anc hD hr h)
    have hstep := wpOp_putIf hoj hapart (fun cs b => Region.noSelect_spec hs i oi cs b hi) (fun cs b => Region.noSelect_spec hs j oj cs b hoj) hQ hy (H.2 j (ready_mono hj hji))
    refine wpOp_mono (fun a' w' h3 => ⟨h3.2.1, ih (L.setIfInBounds j true) a' w' (ready_mono hr (Ne.symm hji)) (hD.set hj) h3.1 ?_⟩) hstep
    rw [Array.setIfInBounds_comm _ _ hji]
    exact h3.2.2
end
/-- What reads nothing and may come whenever. -/
def pureOp (o : Oper) : Bool := match o.op with
  | .move _ => true
  | _ => false

/-! ### Equality of what is kept -/
mutual
def veq : Nat → Value → Value → Bool
  | _, .bool a, .bool b => decide (a = b)
  | _, .int k a, .int j b => decide (k = j) && decide (a = b)
  | _, .string a, .string b => decide (a.data.toList = b.data.toList)
  | _, .pointer a, .pointer b => decide (a = b)
  | _, .slice a n c, .slice b m d => decide (a = b) && decide (n = m) && decide (c = d)
  | _, .map a, .map b => decide (a = b)
  | _, .nilFunc, .nilFunc => true
  | _, .nilIface, .nilIface => true
  | k + 1, .iface t v, .iface u w => decide (t = u) && veq k v w
  | k + 1, .agg a, .agg b => veqL k a.toList b.toList
  | k + 1, .tuple a, .tuple b => veqL k a.toList b.toList
  | k + 1, .func f a b, .func g c d => decide (f = g) && veqL k a.toList c.toList && veqL k b.toList d.toList
  | _, _, _ => false
def veqL : Nat → List Value → List Value → Bool
  | _, [], [] => true
  | k + 1, v :: l, w :: r => veq k v w && veqL k l r
  | _, _, _ => false
end

theorem ba_eq {a b : ByteArray} (h : a.data.toList = b.data.toList) : a = b := by
  cases a with | mk x => cases b with | mk y =>
  have : x = y := Array.ext' h
  rw [this]
set_option maxHeartbeats 2000000 in
theorem veq_spec : ∀ k, (∀ a b, veq k a b = true → a = b) ∧ (∀ l r, veqL k l r = true → l = r) := by
  intro k
  induction k with
  | zero =>
    refine ⟨fun a b h => ?_, fun l r h => ?_⟩
    · cases a <;> cases b <;> simp only [veq, Bool.false_eq_true, Bool.and_eq_true, decide_eq_true_eq] at h <;> (first | rfl | (simp_all; done) | (rw [ba_eq h]))
    · cases l <;> cases r <;> simp [veqL] at h ⊢
  | succ k ih =>
    obtain ⟨ih1, ih2⟩ := ih
    refine ⟨fun a b h => ?_, fun l r h => ?_⟩
    · cases a <;> cases b <;> simp only [veq, Bool.false_eq_true, Bool.and_eq_true, decide_eq_true_eq] at h <;> (first | rfl | (rw [ba_eq h]; done) | skip)
      case bool.bool => rw [h]
      case int.int => rw [h.1, h.2]
      case pointer.pointer => rw [h]
      case slice.slice => rw [h.1.1, h.1.2, h.2]
      case map.map => rw [h]
      case func.func => rw [h.1.1, Array.ext' (ih2 _ _ h.1.2), Array.ext' (ih2 _ _ h.2)]
      case iface.iface => rw [h.1, ih1 _ _ h.2]
      case agg.agg => rw [Array.ext' (ih2 _ _ h)]
      case tuple.tuple => rw [Array.ext' (ih2 _ _ h)]
    · cases l with
      | nil => cases r <;> simp [veqL] at h ⊢
      | cons v l => cases r with
        | nil => simp [veqL] at h
        | cons w r =>
          simp only [veqL, Bool.and_eq_true] at h
          rw [ih1 _ _ h.1, ih2 _ _ h.2]
def eeqL : List MapEntry → List MapEntry → Bool
  | [], [] => true
  | e :: l, f :: r => veq 1000 e.key f.key && veq 1000 e.val f.val && decide (e.born = f.born) && eeqL l r
  | _, _ => false
theorem eeqL_spec : ∀ {l r : List MapEntry}, eeqL l r = true → l = r
  | [], [], _ => rfl
  | [], _ :: _, h => by simp [eeqL] at h
  | _ :: _, [], h => by simp [eeqL] at h
  | e :: l, f :: r, h => by
    simp only [eeqL, Bool.and_eq_true, decide_eq_true_eq] at h
    obtain ⟨⟨⟨h1, h2⟩, h3⟩, h4⟩ := h
    rw [eeqL_spec h4]
    congr 1
    cases e; cases f
    simp only at h1 h2 h3
    rw [(veq_spec _).1 _ _ h1, (veq_spec _).1 _ _ h2, h3]
def aeq : AObj → AObj → Bool
  | .dead, .dead => true
  | .cells a e o, .cells b f p => veqL 10000 a b && decide (e = f) && decide (o = p)
  | .obj (.map es c), .obj (.map fs d) => eeqL es.toList fs.toList && decide (c = d)
  | .ro a, .ro b => veqL 10000 a b
  | _, _ => false
theorem aeq_spec {x y : AObj} (h : aeq x y = true) : x = y := by
  unfold aeq at h
  split at h
  · rfl
  · simp only [Bool.and_eq_true, decide_eq_true_eq] at h
    rw [(veq_spec _).2 _ _ h.1.1, h.1.2, h.2]
  · simp only [Bool.and_eq_true, decide_eq_true_eq] at h
    rw [Array.ext' (eeqL_spec h.1), h.2]
  · rw [(veq_spec _).2 _ _ h]
  · simp at h

/-! ### The evaluation of a region that draws -/
def restrict (H : Tr) : List Nat → Tr
  | [] => .nil
  | b :: l => if b < most then Tr.set depth (restrict H l) b (H.get b) else restrict H l
theorem restrict_get (H : Tr) : ∀ (B : List Nat) (m : Nat), (restrict H B).get m = .dead ∨ (m ∈ B ∧ (restrict H B).get m = H.get m)
  | [], m => .inl rfl
  | b :: l, m => by
    unfold restrict
    split
    · rename_i hb
      rw [get_set hb]
      split
      · rename_i e; rw [e]; exact .inr ⟨List.mem_cons_self, rfl⟩
      · exact (restrict_get H l m).imp id fun h => ⟨List.mem_cons_of_mem _ h.1, h.2⟩
    · exact (restrict_get H l m).imp id fun h => ⟨List.mem_cons_of_mem _ h.1, h.2⟩
def keepsB (Hq H : Tr) (B : List Nat) : Bool := B.all fun b => aeq (Hq.get b) (H.get b)

/-- Which blocks an operation reads. -/
def readsOf (ρ : Operand → Value) : Op → List Nat
  | .load _ x => match ρ x with
    | .pointer (some a) => [a.block]
    | _ => []
  | .lookup _ x _ _ => match ρ x with
    | .map (some r) => [r]
    | _ => []
  | .convert _ _ x => match ρ x with
    | .slice (some a) _ _ => [a.block]
    | _ => []
  | .slice _ x _ _ _ => match ρ x with
    | .slice (some a) _ c => if c < 2 ^ 70 then [] else [a.block]
    | _ => []
  | .call c => match c.callee, c.args.toList.map ρ with
    | .builtin .len, [.map (some r)] => [r]
    | _, _ => []
  | _ => []
/-- A first way through the region, calls left out: which blocks are read. (A guess: nothing hangs on its being right.) -/
def guessB (P : Program) (n0 : Nat) (all : Array Oper) : List Oper → St → List Nat → List Nat
  | [], _, B => B
  | o :: rest, s, B =>
    if Region.wanted o (yieldC all s) then
      match evQ P n0 s.H s.ev o with
      | some v => guessB P n0 all rest (s.put o.dst v) ((readsOf s.ev o.op).filter (fun b => !B.contains b) ++ B)
      | none => guessB P n0 all rest (s.put o.dst undef) B
    else guessB P n0 all rest (s.put o.dst undef) B
/-- An operation with its number, the numbers for which it waits outright (dm), and at all (am). -/
structure Ent where
  i : Nat
  o : Oper
  dm : Nat
  am : Nat
def dmOf : List Edge → Nat
  | [] => 0
  | e :: l => match Region.binds .any e with
    | true => Nat.lor (2 ^ e.on) (dmOf l)
    | false => dmOf l
def amOf (acc : List Nat) : List Edge → Nat
  | [] => 0
  | e :: l => match Region.binds .any e with
    | true => Nat.lor (Nat.lor (2 ^ e.on) (acc.getD e.on 0)) (amOf acc l)
    | false => amOf acc l
def entsOf : Nat → List Nat → List Oper → List Ent
  | _, _, [] => []
  | i, acc, o :: r => ⟨i, o, dmOf o.after.toList, amOf acc o.after.toList⟩ :: entsOf (i + 1) (acc ++ [amOf acc o.after.toList]) r
/-- From which operation on each waits for all below. -/
def mustM (lo : Nat) : List Ent → Nat
  | [] => 0
  | e :: l => match Nat.ble (e.i + 1) lo && !pureOp e.o with
    | true => Nat.lor (2 ^ e.i) (mustM lo l)
    | false => mustM lo l
def lateOk (es : List Ent) (lo : Nat) : Bool := es.all fun e => Nat.ble (e.i + 1) lo || Nat.beq (Nat.land e.am (mustM lo es)) (mustM lo es)
def lateFrom (es : List Ent) : Nat → Nat
  | 0 => 0
  | k + 1 => match lateOk es k with
    | true => lateFrom es k
    | false => k + 1
/-- Two operations are apart, or one waits for the other. -/
def apartOk (ops : Array Oper) (es : List Ent) : Bool :=
  es.all fun e => es.all fun f => Nat.beq e.i f.i || Nat.testBit f.am e.i || Nat.testBit e.am f.i || e.o.apart ops f.o

def rdy (M : Nat) (e : Ent) : Bool := Nat.beq (Nat.land e.dm M) e.dm
/-- What is taken first, if it may be. -/
def takeQ (P : Program) (n0 : Nat) (Hq : Tr) (ops : Array Oper) (lo : Nat) (M : Nat) (s : St) (e : Ent) : Option Value :=
  if Nat.ble (e.i + 1) lo && rdy M e then
    if Region.wanted e.o (yieldC ops s) then
      evQ P n0 Hq s.ev e.o
    else some undef
  else none
def passQ (P : Program) (n0 : Nat) (Hq : Tr) (ops : Array Oper) (lo : Nat) : List Ent → Nat → St → List Ent → Nat × St × List Ent
  | [], M, s, rest => (M, s, rest)
  | e :: l, M, s, rest => match takeQ P n0 Hq ops lo M s e with
    | some v => passQ P n0 Hq ops lo l (Nat.lor M (2 ^ e.i)) (s.put e.o.dst v) rest
    | none => passQ P n0 Hq ops lo l M s (rest ++ [e])
def evDraw (P : Program) (n0 : Nat) (call : Caller) (ops : Array Oper) (lo : Nat) (Hq : Tr) (B : List Nat) : Nat → Nat → List Ent → St → Option (List St)
  | 0, _, _, _ => none
  | k + 1, M, pend, s => match passQ P n0 Hq ops lo pend M s [] with
    | (M', s', rest) => match rest with
      | [] => some [s']
      | _ :: _ => match rest.filter (rdy M') with
        | [] => none
        | r0 :: rs => bindL (fun e => match stepOp P n0 call ops e.o s' with
          | none => none
          | some ss => bindL (fun s2 => if Nat.ble lo e.i || keepsB Hq s2.H B then evDraw P n0 call ops lo Hq B k (Nat.lor M' (2 ^ e.i)) (rest.filter fun x => !Nat.beq x.i e.i) s2 else none) ss) (r0 :: rs)
def merged (lo : Nat) : Option (List St) → Option (List St)
  | some (s :: t :: l) => some (mergeL lo (s :: t :: l))
  | o => o
def evRegion (P : Program) (n0 : Nat) (call : Caller) (ops : Array Oper) (s : St) : Option (List St) :=
  if lateOk (entsOf 0 [] ops.toList) (lateFrom (entsOf 0 [] ops.toList) ops.size) && Region.noSelect ops && apartOk ops (entsOf 0 [] ops.toList) && opsOk n0 ops then
    merged s.n (evDraw P n0 call ops (lateFrom (entsOf 0 [] ops.toList) ops.size) (restrict s.H (guessB P n0 ops (ops.toList.take (lateFrom (entsOf 0 [] ops.toList) ops.size)) s []))
      (guessB P n0 ops (ops.toList.take (lateFrom (entsOf 0 [] ops.toList) ops.size)) s []) (ops.size + 1) 0 (entsOf 0 [] ops.toList) s)
  else none

section
variable {P : Program} {n0 : Nat} {w0 : World} {call : Caller} {ops : Array Oper} {lo : Nat} {Hq : Tr} {B : List Nat} {n1 : Nat} {η1 : Env}


/-! ### The numbers as bits -/
theorem lor_bit (a b i : Nat) : Nat.testBit (Nat.lor a b) i = (Nat.testBit a i || Nat.testBit b i) := Nat.testBit_or a b i
theorem land_bit (a b i : Nat) : Nat.testBit (Nat.land a b) i = (Nat.testBit a i && Nat.testBit b i) := Nat.testBit_and a b i
theorem dmOf_bit : ∀ (es : List Edge) (b : Nat), Nat.testBit (dmOf es) b = true ↔ ∃ e ∈ es, Region.binds .any e = true ∧ e.on = b
  | [], b => by simp [dmOf]
  | e :: l, b => by
    unfold dmOf
    cases hb : Region.binds .any e with
    | true =>
      simp only [lor_bit, Nat.testBit_two_pow, Bool.or_eq_true, decide_eq_true_eq, dmOf_bit l b, List.mem_cons]
      constructor
      · rintro (h | ⟨e', h1, h2⟩)
        · exact ⟨e, .inl rfl, hb, h⟩
        · exact ⟨e', .inr h1, h2⟩
      · rintro ⟨e', rfl | h1, h2, h3⟩
        · exact .inl h3
        · exact .inr ⟨e', h1, h2, h3⟩
    | false =>
      simp only [dmOf_bit l b, List.mem_cons]
      constructor
      · rintro ⟨e', h1, h2⟩; exact ⟨e', .inr h1, h2⟩
      · rintro ⟨e', rfl | h1, h2, h3⟩
        · rw [hb] at h2; cases h2
        · exact ⟨e', h1, h2, h3⟩
theorem amOf_bit (acc : List Nat) : ∀ (es : List Edge) (b : Nat), Nat.testBit (amOf acc es) b = true → ∃ e ∈ es, Region.binds .any e = true ∧ (e.on = b ∨ Nat.testBit (acc.getD e.on 0) b = true)
  | [], b, h => by simp [amOf] at h
  | e :: l, b, h => by
    unfold amOf at h
    cases hb : Region.binds .any e with
    | true =>
      rw [hb] at h
      simp only [lor_bit, Nat.testBit_two_pow, Bool.or_eq_true, decide_eq_true_eq] at h
      rcases h with (h | h) | h
      · exact ⟨e, List.mem_cons_self, hb, .inl h⟩
      · exact ⟨e, List.mem_cons_self, hb, .inr h⟩
      · obtain ⟨e', h1, h2⟩ := amOf_bit acc l b h
        exact ⟨e', List.mem_cons_of_mem _ h1, h2⟩
    | false =>
      rw [hb] at h
      obtain ⟨e', h1, h2⟩ := amOf_bit acc l b h
      exact ⟨e', List.mem_cons_of_mem _ h1, h2⟩
def EntOk (ops : Array Oper) (e : Ent) : Prop := ops[e.i]? = some e.o ∧ e.dm = dmOf e.o.after.toList ∧ ∀ b, Nat.testBit e.am b = true → Anc ops e.i b
theorem entsOf_spec {ops : Array Oper} : ∀ (r : List Oper) (i : Nat) (acc : List Nat), acc.length = i → r = ops.toList.drop i → (∀ m, m < i → ∀ b, Nat.testBit (acc.getD m 0) b = true → Anc ops m b) →
    (∀ e ∈ entsOf i acc r, EntOk ops e ∧ i ≤ e.i) ∧ (∀ m, i ≤ m → m < ops.size → ∃ e ∈ entsOf i acc r, e.i = m) ∧ (entsOf i acc r).Pairwise (fun a b => a.i ≠ b.i)
  | [], i, acc, hl, hr, ha => by
    refine ⟨fun e he => by simp [entsOf] at he, fun m h1 h2 => ?_, List.Pairwise.nil⟩
    have := congrArg List.length hr
    simp at this
    omega
  | o :: r, i, acc, hl, hr, ha => by
    have hi : ops[i]? = some o := by
      have : (ops.toList.drop i)[0]? = some o := by rw [← hr]; rfl
      simpa using this
    have hr' : r = ops.toList.drop (i + 1) := by
      have := congrArg List.tail hr
      simpa using this
    have ham : ∀ b, Nat.testBit (amOf acc o.after.toList) b = true → Anc ops i b := fun b hb => by
      obtain ⟨e, h1, h2, h3⟩ := amOf_bit acc _ b hb
      have he : e ∈ o.after := by simpa using h1
      rcases h3 with rfl | h3
      · exact .direct hi he h2
      · rcases Nat.lt_or_ge e.on i with h' | h'
        · exact .trans hi he h2 (ha _ h' b h3)
        · rw [List.getD_eq_getElem?_getD, List.getElem?_eq_none (by omega)] at h3
          simp at h3
    obtain ⟨g1, g2, g3⟩ := entsOf_spec r (i + 1) (acc ++ [amOf acc o.after.toList]) (by simp [hl]) hr' (fun m hm b hb => by
      rcases Nat.lt_or_ge m i with h' | h'
      · rw [List.getD_eq_getElem?_getD, List.getElem?_append_left (by omega), ← List.getD_eq_getElem?_getD] at hb
        exact ha m h' b hb
      · have : m = i := by omega
        subst this
        rw [List.getD_eq_getElem?_getD, List.getElem?_append_right (by omega), hl, Nat.sub_self] at hb
        exact ham b hb)
    refine ⟨fun e he => ?_, fun m h1 h2 => ?_, ?_⟩
    · rcases List.mem_cons.1 he with rfl | he
      · exact ⟨⟨hi, rfl, ham⟩, Nat.le_refl _⟩
      · exact ⟨(g1 e he).1, by have := (g1 e he).2; omega⟩
    · by_cases hm : m = i
      · exact ⟨_, List.mem_cons_self, hm.symm⟩
      · obtain ⟨e, h3, h4⟩ := g2 m (by omega) h2
        exact ⟨e, List.mem_cons_of_mem _ h3, h4⟩
    · refine List.Pairwise.cons (fun e he => ?_) g3
      have := (g1 e he).2
      show i ≠ e.i
      omega

/-- The bits say what is listed, the entries what is not. -/
structure Rel (ops : Array Oper) (L : Array Bool) (M : Nat) (pend : List Ent) : Prop where
  size : L.size = ops.size
  bit : ∀ i, L.getD i false = Nat.testBit M i
  all : ∀ i, i < ops.size → Nat.testBit M i = false → ∃ e ∈ pend, e.i = i
  ok : ∀ e ∈ pend, EntOk ops e ∧ Nat.testBit M e.i = false
  one : pend.Pairwise (fun a b => a.i ≠ b.i)
  down : Down ops L
section
variable {ops : Array Oper} {L : Array Bool} {M : Nat} {pend : List Ent}
theorem Rel.lt (h : Rel ops L M pend) {e : Ent} (he : e ∈ pend) : e.i < ops.size := (Array.getElem?_eq_some_iff.1 (h.ok e he).1.1).1
theorem Rel.getT (h : Rel ops L M pend) {i : Nat} (hi : i < ops.size) : L.getD i true = Nat.testBit M i := by
  rw [← h.bit i]
  simp [h.size, hi]
theorem Rel.rdy (h : Rel ops L M pend) {e : Ent} (he : e ∈ pend) : rdy M e = true ↔ e.i ∈ Region.ready .any ops L := by
  obtain ⟨⟨h1, h2, h3⟩, h4⟩ := h.ok e he
  constructor
  · intro hr
    have hr' : Nat.land e.dm M = e.dm := Nat.eq_of_beq_eq_true hr
    refine mem_ready.2 ⟨by rw [h.getT (h.lt he), h4], e.o, h1, fun d hd hb => ?_⟩
    rw [h.bit]
    have hbit : Nat.testBit e.dm d.on = true := by rw [h2]; exact (dmOf_bit _ _).2 ⟨d, by simpa using hd, hb, rfl⟩
    rw [← hr', land_bit, Bool.and_eq_true] at hbit
    exact hbit.2
  · intro hr
    obtain ⟨-, o, ho, hall⟩ := mem_ready.1 hr
    rw [h1] at ho
    simp only [Option.some.injEq] at ho; subst ho
    have : Nat.land e.dm M = e.dm := by
      apply Nat.eq_of_testBit_eq
      intro b
      rw [land_bit]
      cases hb : Nat.testBit e.dm b with
      | false => rfl
      | true =>
        rw [h2] at hb
        obtain ⟨d, d1, d2, d3⟩ := (dmOf_bit _ _).1 hb
        have := hall d (by simpa using d1) d2
        rw [h.bit, d3] at this
        rw [this]; rfl
    unfold Ev.rdy
    rw [this]; exact Nat.beq_refl _
theorem Rel.pends (h : Rel ops L M pend) {j : Nat} (hj : j ∈ Region.ready .any ops L) : ∃ e ∈ pend, e.i = j ∧ Ev.rdy M e = true := by
  obtain ⟨h1, o, ho, -⟩ := mem_ready.1 hj
  have hlt := (Array.getElem?_eq_some_iff.1 ho).1
  rw [h.getT hlt] at h1
  obtain ⟨e, he, rfl⟩ := h.all j hlt h1
  exact ⟨e, he, rfl, (h.rdy he).2 hj⟩
theorem Rel.put (h : Rel ops L M pend) {e : Ent} (he : e ∈ pend) (hr : e.i ∈ Region.ready .any ops L) {pend' : List Ent} (hsub : pend'.Sublist pend) (hall : ∀ f ∈ pend, f.i ≠ e.i → f ∈ pend') (hno : ∀ f ∈ pend', f.i ≠ e.i) :
    Rel ops (L.setIfInBounds e.i true) (Nat.lor M (2 ^ e.i)) pend' := by
  have hlt := h.lt he
  refine ⟨by simp [h.size], fun i => ?_, fun i hi hb => ?_, fun f hf => ?_, h.one.sublist hsub, h.down.set hr⟩
  · rw [lor_bit, Nat.testBit_two_pow]
    by_cases hei : e.i = i
    · subst hei
      simp [h.size, hlt]
    · rw [getD_set_ne false hei, h.bit]; simp [hei]
  · rw [lor_bit, Nat.testBit_two_pow, Bool.or_eq_false_iff, decide_eq_false_iff_not] at hb
    obtain ⟨f, hf, rfl⟩ := h.all i hi hb.1
    exact ⟨f, hall f hf (fun e' => hb.2 e'.symm), rfl⟩
  · obtain ⟨g1, g2⟩ := h.ok f (hsub.subset hf)
    refine ⟨g1, ?_⟩
    rw [lor_bit, Nat.testBit_two_pow, g2]
    have := hno f hf
    simp [Ne.symm this]
end
end

section
variable {P : Program} {n0 : Nat} {w0 : World} {call : Caller} {ops : Array Oper} {lo : Nat} {Hq : Tr} {B : List Nat} {n1 : Nat} {η1 : Env}

theorem Inq.lift {n : Nat} {η : Env} {w : World} (h : Inq P n0 Hq n1 η1 w) (ha : Agree n1 η1 η) (hn : n1 ≤ n) : Inq P n0 Hq n η w := by
  refine ⟨Nat.le_trans h.n0n hn, fun i hi => ?_, fun i hi => ?_, fun i hi => h.beyond i (by omega)⟩
  · rw [(ha i (Nat.lt_of_lt_of_le hi h.n0n)).1]; exact h.fix i hi
  · rcases Nat.lt_or_ge i n1 with h' | h'
    · exact (h.at' i h').agree ha h' hn
    · rw [h.beyond i h']; trivial
theorem keepsB_spec {H' : Tr} (h : keepsB Hq H' B = true) {b : Nat} (hb : b ∈ B) : Hq.get b = H'.get b := by
  simp only [keepsB, List.all_eq_true] at h
  exact aeq_spec (h b hb)
/-- What is kept of memory is known behind an operation that has not turned it. -/
theorem Inq.back {H' : Tr} {n' : Nat} {η' : Env} {w w' : World} (h : Inq P n0 Hq n1 η1 w) (hB : ∀ m, Hq.get m = .dead ∨ m ∈ B) (hk : keepsB Hq H' B = true) (h' : Inv P n0 w0 H' n' η' w') (ha : Agree n1 η1 η') (hn : n1 ≤ n') :
    Inq P n0 Hq n1 η1 w' := by
  refine ⟨h.n0n, h.fix, fun i hi => ?_, h.beyond⟩
  rcases hB i with hd | hm
  · rw [hd]; trivial
  · have hold := h.at' i hi
    have hnew := h'.at' i (by omega)
    rw [← keepsB_spec hk hm] at hnew
    cases hx : Hq.get i with
    | dead => trivial
    | cells cs e op =>
      rw [hx] at hold hnew
      obtain ⟨hw, -⟩ := hold
      obtain ⟨-, ex, fz, g1, g2, g3, g4⟩ := hnew
      rw [(ha i hi).1, hw.map ha] at g1
      rw [(ha i hi).2] at g4
      exact ⟨hw, ex, fz, g1, g2, g3, g4⟩
    | ro cs =>
      rw [hx] at hold hnew
      obtain ⟨hw, -⟩ := hold
      obtain ⟨-, g⟩ := hnew
      exact ⟨hw, fun j v hv => by rw [← (ha i hi).1, g j v hv, hw v (List.mem_of_getElem? hv) _ _ ha]⟩
    | obj o =>
      rw [hx] at hold hnew
      obtain ⟨hw, hn', -⟩ := hold
      obtain ⟨-, -, g⟩ := hnew
      rw [(ha i hi).1, hw _ _ ha] at g
      exact ⟨hw, hn', g⟩

theorem takeQ_spec {M : Nat} {s : St} {e : Ent} {v : Value} (h : takeQ P n0 Hq ops lo M s e = some v) : e.i < lo ∧ rdy M e = true ∧
    ((Region.wanted e.o (yieldC ops s) = true ∧ evQ P n0 Hq s.ev e.o = some v) ∨ (Region.wanted e.o (yieldC ops s) = false ∧ v = undef)) := by
  unfold takeQ at h
  split at h
  case isFalse => simp at h
  rename_i hc
  simp only [Bool.and_eq_true] at hc
  have h1 : e.i + 1 ≤ lo := Nat.le_of_ble_eq_true hc.1
  refine ⟨by omega, hc.2, ?_⟩
  split at h
  · rename_i hw
    exact .inl ⟨hw, h⟩
  · rename_i hw
    simp only [Option.some.injEq] at h
    exact .inr ⟨by simpa using hw, h.symm⟩
theorem apartOk_spec {es : List Ent} (h : apartOk ops es = true) (hok : ∀ e ∈ es, EntOk ops e) (hall : ∀ i, i < ops.size → ∃ e ∈ es, e.i = i) {e : Ent} (he : e ∈ es) (j : Nat) (oj : Oper) (hj : ops[j]? = some oj) (hne : j ≠ e.i) :
    e.o.apart ops oj = true ∨ Anc ops j e.i ∨ Anc ops e.i j := by
  obtain ⟨f, hf, rfl⟩ := hall j (Array.getElem?_eq_some_iff.1 hj).1
  simp only [apartOk, List.all_eq_true] at h
  have h1 := h e he f hf
  simp only [Bool.or_eq_true] at h1
  obtain ⟨f1, -, f3⟩ := hok f hf
  rw [hj] at f1
  simp only [Option.some.injEq] at f1; subst f1
  rcases h1 with ((h1 | h1) | h1) | h1
  · exact absurd (Nat.eq_of_beq_eq_true h1).symm hne
  · exact .inr (.inl (f3 _ h1))
  · exact .inr (.inr ((hok e he).2.2 _ h1))
  · exact .inl h1
theorem mustM_bit {i : Nat} (hi : i < lo) : ∀ {es : List Ent}, (∃ e ∈ es, e.i = i ∧ pureOp e.o = false) → Nat.testBit (mustM lo es) i = true
  | [], h => by obtain ⟨e, he, -⟩ := h; cases he
  | f :: l, h => by
    obtain ⟨e, he, rfl, hp⟩ := h
    unfold mustM
    rcases List.mem_cons.1 he with rfl | he
    · have : (Nat.ble (e.i + 1) lo && !pureOp e.o) = true := by rw [hp, Nat.ble_eq_true_of_le (by omega)]; rfl
      rw [this]
      simp [lor_bit, Nat.testBit_two_pow]
    · have ih := mustM_bit hi ⟨e, he, rfl, hp⟩
      split
      · rw [lor_bit, ih, Bool.or_true]
      · exact ih
theorem lateOk_spec {es : List Ent} (h : lateOk es lo = true) (hok : ∀ e ∈ es, EntOk ops e) (hall : ∀ i, i < ops.size → ∃ e ∈ es, e.i = i) {i j : Nat} (hj : lo ≤ j) (hjs : j < ops.size) (hi : i < lo) (hp : ∀ o, ops[i]? = some o → pureOp o = false) : Anc ops j i := by
  obtain ⟨f, hf, rfl⟩ := hall j hjs
  simp only [lateOk, List.all_eq_true] at h
  have h1 := h f hf
  rw [Bool.or_eq_true] at h1
  rcases h1 with h1 | h1
  · have := Nat.le_of_ble_eq_true h1; omega
  · have h2 : Nat.land f.am (mustM lo es) = mustM lo es := Nat.eq_of_beq_eq_true h1
    refine (hok f hf).2.2 i ?_
    obtain ⟨g, hg, hgi⟩ := hall i (by omega)
    have h3 : Nat.testBit (mustM lo es) i = true := mustM_bit hi ⟨g, hg, hgi, hp _ (by rw [← hgi]; exact (hok g hg).1)⟩
    rw [← h2, land_bit, Bool.and_eq_true] at h3
    exact h3.1

theorem evQ_pure {ρ : Operand → Value} {o : Oper} (hp : pureOp o = true) (H H' : Tr) : evQ P n0 H ρ o = evQ P n0 H' ρ o := by
  unfold pureOp at hp
  split at hp
  · rename_i x h
    simp only [evQ, h, evVal]
  · simp at hp
theorem Inq.nothing {n : Nat} {η : Env} {W : World} (h : n0 ≤ n) (hf : Fix n0 η) : Inq P n0 .nil n η W := ⟨h, hf, fun i _ => trivial, fun i _ => rfl⟩
/-- Taking what only reads: from what holds behind it to what holds ahead of it. -/
theorem passQ_sound (hopk : ∀ e, EntOk ops e → ∀ x ∈ e.o.op.operands, okOp n0 x = true) (hap : ∀ e, EntOk ops e → ∀ j oj, ops[j]? = some oj → j ≠ e.i → e.o.apart ops oj = true ∨ Anc ops j e.i ∨ Anc ops e.i j) (hlate : ∀ i j, lo ≤ j → j < ops.size → i < lo → (∀ o, ops[i]? = some o → pureOp o = false) → Anc ops j i)
    (hsel : Region.noSelect ops = true) {Q : Exit → Act → World → Prop} (hQp : ∀ c a b w, Q (.panic c) a w → Q (.panic c) b w) {H : Tr} {n : Nat} {η : Env} {W : World} (hI : Inv P n0 w0 H n η W) (ha : Agree n1 η1 η) (hn : n1 ≤ n) :
    ∀ (l : List Ent) (M : Nat) (s : St) (rest : List Ent) (L : Array Bool) (a : Act) (k : Nat), s.H = H → s.n = n → Fr η s a → Rel ops L M (rest ++ l) → (rest ++ l).length ≤ k →
      (Inq P n0 Hq n1 η1 W ∨ ∀ i, i < lo → (∀ o, ops[i]? = some o → pureOp o = false) → L.getD i false = true) →
      ∀ (M' : Nat) (s' : St) (rest' : List Ent), passQ P n0 Hq ops lo l M s rest = (M', s', rest') →
      (∀ L' a' k', s'.H = H → s'.n = n → Fr η s' a' → Rel ops L' M' rest' → rest'.length ≤ k' → (Inq P n0 Hq n1 η1 W ∨ ∀ i, i < lo → (∀ o, ops[i]? = some o → pureOp o = false) → L'.getD i false = true) → anyL P ops Q (fun w => Inq P n0 Hq n1 η1 w) lo k' L' a' W) →
      anyL P ops Q (fun w => Inq P n0 Hq n1 η1 w) lo k L a W
  | [], M, s, rest, L, a, k, hH, hN, hF, hR, hk, hS, M', s', rest', he, K => by
    simp only [passQ, Prod.mk.injEq] at he
    obtain ⟨rfl, rfl, rfl⟩ := he
    rw [List.append_nil] at hR hk
    exact K L a k hH hN hF hR hk hS
  | e :: l, M, s, rest, L, a, k, hH, hN, hF, hR, hk, hS, M', s', rest', he, K => by
    unfold passQ at he
    have hmem : e ∈ rest ++ e :: l := List.mem_append_right _ List.mem_cons_self
    split at he
    · rename_i v hv
      obtain ⟨t1, t2, t3⟩ := takeQ_spec hv
      have hr := (hR.rdy hmem).1 t2
      obtain ⟨ok1, -⟩ := hR.ok e hmem
      have hfix := hI.fix
      have hn0 : n0 ≤ s.n := by rw [hN]; exact hI.n0n
      have hlen : 0 < k := by simp at hk; omega
      obtain ⟨k', rfl⟩ : ∃ k', k = k' + 1 := ⟨k - 1, by omega⟩
      have g2 : ∀ x ∈ e.o.op.operands, okOp n0 x = true := hopk e ok1
      cases hpure : pureOp e.o with
      | true =>
        have hy : YieldsIf P ops (fun _ => True) e.o (rV η v) a ∧ Wf s.n v := by
          rcases t3 with ⟨g1, g3⟩ | ⟨g1, rfl⟩
          · rw [evQ_pure hpure Hq .nil] at g3
            refine ⟨.inl ⟨by rw [hF.yielded ops]; exact g1, fun w hw => ?_⟩, ?_⟩
            · exact (evQ_sound (Inq.nothing hn0 hfix) (hF.good hfix hn0) g2 g3).2
            · exact (evQ_sound (W := W) (Inq.nothing hn0 hfix) (hF.good hfix hn0) g2 g3).1
          · exact ⟨.inr ⟨by rw [hF.yielded ops]; exact g1, by simp⟩, Wf.undef _⟩
        refine anyL_firstP ok1.1 hsel (hap e ok1) (fun c a w h => hQp c _ _ w h) k' L a W hr hR.down hy.1 ?_
        refine passQ_sound hopk hap hlate hsel hQp hI ha hn l _ (s.put e.o.dst v) rest (L.setIfInBounds e.i true) _ k' (by simpa using hH) (by simpa using hN) (hF.put hy.2) ?_ ?_ (hS.imp id fun h i hi hp => getD_set_true (h i hi hp)) M' s' rest' he K
        · refine hR.put hmem hr (List.Sublist.append (List.Sublist.refl _) (List.sublist_cons_self _ _)) (fun f hf hfe => ?_) (fun f hf => ?_)
          · rcases List.mem_append.1 hf with hf | hf
            · exact List.mem_append_left _ hf
            · rcases List.mem_cons.1 hf with rfl | hf
              · exact absurd rfl hfe
              · exact List.mem_append_right _ hf
          · have hp := List.pairwise_append.1 hR.one
            rcases List.mem_append.1 hf with hf | hf
            · exact hp.2.2 f hf e List.mem_cons_self
            · exact ((List.pairwise_cons.1 hp.2.1).1 f hf).symm
        · simp at hk ⊢; omega
      | false =>
        have hpf : ∀ o, ops[e.i]? = some o → pureOp o = false := fun o ho => by
          rw [ok1.1] at ho
          simp only [Option.some.injEq] at ho; subst ho
          exact hpure
        have hSw : Inq P n0 Hq n1 η1 W := hS.resolve_right fun hall => unlisted_ne (mem_ready.1 hr).1 (hall e.i t1 hpf)
        have hy : YieldsIf P ops (fun w => Inq P n0 Hq n1 η1 w) e.o (rV η v) a ∧ Wf s.n v := by
          rcases t3 with ⟨g1, g3⟩ | ⟨g1, rfl⟩
          · refine ⟨.inl ⟨by rw [hF.yielded ops]; exact g1, fun w hw => ?_⟩, ?_⟩
            · exact (evQ_sound (hw.lift ha (by rw [hN]; exact hn)) (hF.good hfix hn0) g2 g3).2
            · exact (evQ_sound (hSw.lift ha (by rw [hN]; exact hn)) (hF.good hfix hn0) g2 g3).1
          · exact ⟨.inr ⟨by rw [hF.yielded ops]; exact g1, by simp⟩, Wf.undef _⟩
        refine anyL_first ok1.1 (fun j h1 h2 => hlate e.i j h1 h2 t1 hpf) hsel (hap e ok1) (fun c a w h => hQp c _ _ w h) k' L a W hr hR.down hy.1 hSw ?_
        refine passQ_sound hopk hap hlate hsel hQp hI ha hn l _ (s.put e.o.dst v) rest (L.setIfInBounds e.i true) _ k' (by simpa using hH) (by simpa using hN) (hF.put hy.2) ?_ ?_ (.inl hSw) M' s' rest' he K
        · refine hR.put hmem hr (List.Sublist.append (List.Sublist.refl _) (List.sublist_cons_self _ _)) (fun f hf hfe => ?_) (fun f hf => ?_)
          · rcases List.mem_append.1 hf with hf | hf
            · exact List.mem_append_left _ hf
            · rcases List.mem_cons.1 hf with rfl | hf
              · exact absurd rfl hfe
              · exact List.mem_append_right _ hf
          · have hp := List.pairwise_append.1 hR.one
            rcases List.mem_append.1 hf with hf | hf
            · exact hp.2.2 f hf e List.mem_cons_self
            · exact ((List.pairwise_cons.1 hp.2.1).1 f hf).symm
        · simp at hk ⊢; omega
    · refine passQ_sound hopk hap hlate hsel hQp hI ha hn l M s (rest ++ [e]) L a k hH hN hF ?_ ?_ hS M' s' rest' he K
      · rw [List.append_assoc]; exact hR
      · simp at hk ⊢; omega

theorem evDraw_sound (hc : CallOk P n0 w0 call) (hops : opsOk n0 ops = true) (hap : ∀ e, EntOk ops e → ∀ j oj, ops[j]? = some oj → j ≠ e.i → e.o.apart ops oj = true ∨ Anc ops j e.i ∨ Anc ops e.i j) (hlate : ∀ i j, lo ≤ j → j < ops.size → i < lo → (∀ o, ops[i]? = some o → pureOp o = false) → Anc ops j i)
    (hsel : Region.noSelect ops = true) (hB : ∀ m, Hq.get m = .dead ∨ m ∈ B) {Q : Exit → Act → World → Prop} (hQp : ∀ c a b w, Q (.panic c) a w → Q (.panic c) b w) :
    ∀ (f : Nat) (M : Nat) (pend : List Ent) (s : St) (ss : List St) (L : Array Bool) (η : Env) (a : Act) (W : World) (k : Nat), evDraw P n0 call ops lo Hq B f M pend s = some ss → Rel ops L M pend → pend.length ≤ k → Inv P n0 w0 s.H s.n η W → Fr η s a → Agree n1 η1 η → n1 ≤ s.n →
      (Inq P n0 Hq n1 η1 W ∨ ∀ i, i < lo → (∀ o, ops[i]? = some o → pureOp o = false) → L.getD i false = true) →
      (∀ s' ∈ ss, ∀ η' a' W', Agree s.n η η' → s.n ≤ s'.n → Inv P n0 w0 s'.H s'.n η' W' → Fr η' s' a' → Q .normal a' W') → anyL P ops Q (fun w => Inq P n0 Hq n1 η1 w) lo k L a W
  | 0, M, pend, s, ss, L, η, a, W, k, he, hR, hk, hI, hF, ha, hn, hS, hQ => by simp [evDraw] at he
  | f + 1, M, pend, s, ss, L, η, a, W, k, he, hR, hk, hI, hF, ha, hn, hS, hQ => by
    unfold evDraw at he
    cases hp : passQ P n0 Hq ops lo pend M s [] with
    | mk M' p2 =>
    obtain ⟨s', rest⟩ := p2
    rw [hp] at he
    dsimp only at he
    have hopk : ∀ e, EntOk ops e → ∀ x ∈ e.o.op.operands, okOp n0 x = true := fun e he => opOk_spec (by
      simp only [opsOk, List.all_eq_true] at hops
      exact hops e.o (by simpa using Array.mem_of_getElem? he.1))
    refine passQ_sound hopk hap hlate hsel hQp hI ha hn pend M s [] L a k rfl rfl hF (by simpa using hR) (by simpa using hk) hS M' s' rest hp fun L' a' k' hH' hN' hF' hR' hk' hS' => ?_
    have hI' : Inv P n0 w0 s'.H s'.n η W := by rw [hH', hN']; exact hI
    cases rest with
    | nil =>
      simp only [Option.some.injEq] at he; subst he
      have hnone : Region.ready .any ops L' = [] := by
        cases hr : Region.ready .any ops L' with
        | nil => rfl
        | cons j js =>
          obtain ⟨e, he', -⟩ := hR'.pends (j := j) (by rw [hr]; exact List.mem_cons_self)
          simp at he'
      have hdone : Q .normal a' W := hQ s' (List.mem_singleton_self _) η a' W (.refl _ _) (by rw [hN']; exact Nat.le_refl _) hI' hF'
      cases k' with
      | zero => exact ⟨hnone, hdone⟩
      | succ k' => exact ⟨fun _ => hdone, by rw [hnone]; simp⟩
    | cons e0 es0 =>
      dsimp only at he
      cases hfl : (e0 :: es0).filter (rdy M') with
      | nil => rw [hfl] at he; simp at he
      | cons r0 rs =>
        rw [hfl] at he
        dsimp only at he
        obtain ⟨k2, rfl⟩ : ∃ k2, k' = k2 + 1 := ⟨k' - 1, by simp at hk'; omega⟩
        refine ⟨fun h0 => ?_, fun j hj => ?_⟩
        · have : r0 ∈ (e0 :: es0).filter (rdy M') := by rw [hfl]; exact List.mem_cons_self
          obtain ⟨m1, m2⟩ := List.mem_filter.1 this
          have := (hR'.rdy m1).1 m2
          rw [h0] at this
          cases this
        · obtain ⟨e, he1, rfl, he2⟩ := hR'.pends hj
          have hef : e ∈ r0 :: rs := by rw [← hfl]; exact List.mem_filter.2 ⟨he1, he2⟩
          obtain ⟨u, hu, hsub⟩ := bindL_mem he e hef
          obtain ⟨⟨ho, ho2⟩, -⟩ := hR'.ok e he1
          have hop : opOk n0 e.o = true := by
            simp only [opsOk, List.all_eq_true] at hops
            exact hops e.o (by simpa using Array.mem_of_getElem? ho)
          cases hst : stepOp P n0 call ops e.o s' with
          | none => rw [hst] at hu; simp at hu
          | some s1 =>
            rw [hst] at hu
            dsimp only at hu
            unfold wpOp
            rw [ho]
            have hn' : n1 ≤ s'.n := by rw [hN']; exact hn
            refine stepOp_sound (all := ops) hc hI' hF' hop hst (Q := Q) (K := fun a' w' => (e.i < lo → Inq P n0 Hq n1 η1 W → Inq P n0 Hq n1 η1 w') ∧ anyL P ops Q (fun w => Inq P n0 Hq n1 η1 w) lo k2 (L'.setIfInBounds e.i true) a' w') ?_
            intro s2 hs2 η2 a2 W2 ha2 hn2 hI2 hF2
            obtain ⟨u2, hu2, hsub2⟩ := bindL_mem hu s2 hs2
            split at hu2
            case isFalse => simp at hu2
            rename_i hcond
            have ha3 : Agree n1 η1 η2 := ha.trans ha2 hn'
            have hSS : (e.i < lo → Inq P n0 Hq n1 η1 W → Inq P n0 Hq n1 η1 W2) ∧ (Inq P n0 Hq n1 η1 W2 ∨ ∀ i, i < lo → (∀ o, ops[i]? = some o → pureOp o = false) → (L'.setIfInBounds e.i true).getD i false = true) := by
              by_cases hjlo : e.i < lo
              · have hk : keepsB Hq s2.H B = true := by
                  rw [Bool.or_eq_true] at hcond
                  refine hcond.resolve_left fun h => ?_
                  have := Nat.le_of_ble_eq_true h
                  omega
                have hback : Inq P n0 Hq n1 η1 W → Inq P n0 Hq n1 η1 W2 := fun hSw => hSw.back hB hk hI2 ha3 (Nat.le_trans hn' hn2)
                exact ⟨fun _ => hback, hS'.imp hback fun h i hi hp => getD_set_true (h i hi hp)⟩
              · exact ⟨fun h => absurd h hjlo, .inr fun i hi hp => getD_set_true (ready_anc hR'.down hj (hlate i e.i (by omega) (hR'.lt he1) hi hp))⟩
            refine ⟨hSS.1, evDraw_sound hc hops hap hlate hsel hB hQp f _ _ s2 u2 (L'.setIfInBounds e.i true) η2 a2 W2 k2 hu2 ?_ ?_ hI2 hF2 ha3 (Nat.le_trans hn' hn2) hSS.2 fun s3 hs3 η3 a3 W3 ha4 hn4 hI3 hF3 => ?_⟩
            · refine hR'.put he1 hj List.filter_sublist (fun g hg hge => List.mem_filter.2 ⟨hg, ?_⟩) (fun g hg => ?_)
              · simp [beqF hge]
              · have := (List.mem_filter.1 hg).2
                intro hge
                rw [hge] at this
                simp at this
            · have : ((e0 :: es0).filter fun x => !Nat.beq x.i e.i).length < (e0 :: es0).length := by
                rw [List.length_filter_lt_length_iff_exists]
                exact ⟨e, he1, by simp⟩
              omega
            · refine hQ s3 (hsub s3 (hsub2 s3 hs3)) η3 a3 W3 ?_ ?_ hI3 hF3
              · have := ha2.trans ha4 hn2
                rwa [hN'] at this
              · have := Nat.le_trans hn2 hn4
                rwa [hN'] at this

theorem evRegion_sound (hm : P.follows .mixedOrders = true) (hc : CallOk P n0 w0 call) {Q : Exit → Act → World → Prop} (hQp : ∀ c a b w, Q (.panic c) a w → Q (.panic c) b w) {s : St} {ss : List St} {η : Env} {a : Act} {W : World} {id : Nat}
    (he : evRegion P n0 call ops s = some ss) (hI : Inv P n0 w0 s.H s.n η W) (hF : Fr η s a)
    (hQ : ∀ s' ∈ ss, ∀ η' a' W', Agree s.n η η' → s.n ≤ s'.n → Inv P n0 w0 s'.H s'.n η' W' → Fr η' s' a' → Q .normal a' W') : (Code.region id ops true).wp P Q a W := by
  unfold evRegion at he
  split at he
  case isFalse => simp at he
  rename_i hcond
  simp only [Bool.and_eq_true] at hcond
  obtain ⟨⟨⟨c1, c2⟩, c3⟩, c4⟩ := hcond
  have hn0s : n0 ≤ s.n := hI.n0n
  obtain ⟨g1, g2, g3⟩ := entsOf_spec (ops := ops) ops.toList 0 [] rfl (by simp) (fun m hm => by omega)
  have gok : ∀ e ∈ entsOf 0 [] ops.toList, EntOk ops e := fun e he => (g1 e he).1
  have gall : ∀ i, i < ops.size → ∃ e ∈ entsOf 0 [] ops.toList, e.i = i := fun i hi => g2 i (Nat.zero_le _) hi
  have hI' : Inv P n0 w0 s.H s.n η W.drew := hI.drew
  have hr := restrict_get s.H (guessB P n0 ops (ops.toList.take (lateFrom (entsOf 0 [] ops.toList) ops.size)) s [])
  have hS : Inq P n0 (restrict s.H (guessB P n0 ops (ops.toList.take (lateFrom (entsOf 0 [] ops.toList) ops.size)) s [])) s.n η W.drew := by
    refine ⟨hI.n0n, hI.fix, fun i hi => ?_, fun i hi => ?_⟩
    · rcases hr i with hd | ⟨-, hd⟩
      · rw [hd]; trivial
      · rw [hd]; exact hI'.at' i hi
    · rcases hr i with hd | ⟨-, hd⟩
      · exact hd
      · rw [hd]; exact hI.beyond i hi
  have hrel : Rel ops (Array.replicate ops.size false) 0 (entsOf 0 [] ops.toList) := by
    refine ⟨by simp, fun i => ?_, fun i hi _ => gall i hi, fun e he => ⟨gok e he, by simp⟩, g3, fun m o ho hm => ?_⟩
    · by_cases hi : i < ops.size
      · simp [hi]
      · simp [hi]
    · have hlt : m < ops.size := (Array.getElem?_eq_some_iff.1 ho).1
      simp [hlt] at hm
  have hlen : ∀ (r : List Oper) (i : Nat) (acc : List Nat), (entsOf i acc r).length = r.length := by
    intro r
    induction r with
    | nil => intro i acc; rfl
    | cons o r ih => intro i acc; simp [entsOf, ih]
  obtain ⟨ss0, he, hall⟩ : ∃ ss0, evDraw P n0 call ops (lateFrom (entsOf 0 [] ops.toList) ops.size) (restrict s.H (guessB P n0 ops (ops.toList.take (lateFrom (entsOf 0 [] ops.toList) ops.size)) s []))
      (guessB P n0 ops (ops.toList.take (lateFrom (entsOf 0 [] ops.toList) ops.size)) s []) (ops.size + 1) 0 (entsOf 0 [] ops.toList) s = some ss0 ∧
      ∀ s' ∈ ss0, ∀ η' a' W', Agree s.n η η' → s.n ≤ s'.n → Inv P n0 w0 s'.H s'.n η' W' → Fr η' s' a' → Q .normal a' W' := by
    generalize evDraw P n0 call ops (lateFrom (entsOf 0 [] ops.toList) ops.size) (restrict s.H (guessB P n0 ops (ops.toList.take (lateFrom (entsOf 0 [] ops.toList) ops.size)) s []))
      (guessB P n0 ops (ops.toList.take (lateFrom (entsOf 0 [] ops.toList) ops.size)) s []) (ops.size + 1) 0 (entsOf 0 [] ops.toList) s = r at he
    unfold merged at he
    split at he
    · rename_i u v l
      simp only [Option.some.injEq] at he; subst he
      refine ⟨_, rfl, mergeL_all (lo := s.n) (fun x y hxy hK η' a' W' ha hn hI hF => ?_) _ hQ⟩
      obtain ⟨η2, h1, h2, h3, h4⟩ := sameSt_ok hxy (by assumption) hI hF
      exact hK η2 a' W' (ha.trans h1 (Nat.le_refl _)) (by omega) h3 h4
    · exact ⟨ss, he, hQ⟩
  have key := evDraw_sound (w0 := w0) (n1 := s.n) (η1 := η) hc c4
    (fun e he j oj hj hne => by
      obtain ⟨f, hf, hfi⟩ := gall e.i (Array.getElem?_eq_some_iff.1 he.1).1
      have h1 := apartOk_spec c3 gok gall hf j oj hj (by rw [hfi]; exact hne)
      have h2 := (gok f hf).1
      rw [hfi, he.1] at h2
      simp only [Option.some.injEq] at h2
      rw [hfi] at h1
      rw [h2]
      exact h1)
    (fun i j h1 h2 h3 h4 => lateOk_spec c1 gok gall h1 h2 h3 h4) c2 (fun m => (hr m).imp (fun h => h) fun h => h.1) hQp _ _ _ s ss0 _ η a W.drew ops.size he hrel (by rw [hlen]; simp) hI' hF (.refl _ _) (Nat.le_refl _) (.inl hS) hall
  exact wp_region_any hm (anyL_any _ _ _ _ key)
end
end Go.Proofs.Ytoanbjnhoggpjaa.Ev
