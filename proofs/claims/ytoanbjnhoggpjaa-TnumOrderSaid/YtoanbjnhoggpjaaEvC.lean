/-
  A closed call evaluated: code.
-/
import Derived.Test.YtoanbjnhoggpjaaEvX
import Derived.Tactics
import Derived.Scope
namespace Go.Proofs.Ytoanbjnhoggpjaa.Ev
set_option linter.unusedSimpArgs false
set_option linter.unusedVariables false
set_option maxRecDepth 100000
open Go Go.RowKit

inductive TV where
  | nil
  | node (o : Value) (l r : TV)

def TV.get : TV → Nat → Value
  | .nil, _ => undef
  | .node o l r, n => match Nat.beq n 0 with
    | true => o
    | false => match Nat.beq (n % 2) 1 with
      | true => l.get (n / 2)
      | false => r.get (n / 2 - 1)
def TV.top : TV → Value
  | .nil => undef
  | .node o _ _ => o
def TV.left : TV → TV
  | .nil => .nil
  | .node _ l _ => l
def TV.right : TV → TV
  | .nil => .nil
  | .node _ _ r => r
def TV.set : Nat → TV → Nat → Value → TV
  | 0, t, _, _ => t
  | k + 1, t, n, x => match Nat.beq n 0 with
    | true => .node x t.left t.right
    | false => match Nat.beq (n % 2) 1 with
      | true => .node t.top (TV.set k t.left (n / 2) x) t.right
      | false => .node t.top t.left (TV.set k t.right (n / 2 - 1) x)
theorem TV.get_eq (t : TV) (n : Nat) : t.get n = if n = 0 then t.top else if n % 2 = 1 then t.left.get (n / 2) else t.right.get (n / 2 - 1) := by
  cases t with
  | nil => simp [TV.get, TV.top, TV.left, TV.right]
  | node o l r =>
    simp only [TV.get, TV.top, TV.left, TV.right]
    by_cases h0 : n = 0
    · subst h0; rfl
    · have : Nat.beq n 0 = false := beqF h0
      rw [this, if_neg h0]
      by_cases h1 : n % 2 = 1
      · have : Nat.beq (n % 2) 1 = true := by rw [h1]; rfl
        rw [this, if_pos h1]
      · have : Nat.beq (n % 2) 1 = false := beqF h1
        rw [this, if_neg h1]
theorem TV.get_set : ∀ (k : Nat) (t : TV) (n m : Nat) (x : Value), n + 1 < 2 ^ k → (TV.set k t n x).get m = if m = n then x else t.get m := by
  intro k
  induction k with
  | zero => intro t n m x h; simp at h
  | succ k ih =>
    intro t n m x h
    have hp : 2 ^ (k + 1) = 2 * 2 ^ k := by rw [Nat.pow_succ]; omega
    rw [TV.get_eq t m]
    by_cases h0 : n = 0
    · subst h0
      have : TV.set (k + 1) t 0 x = .node x t.left t.right := rfl
      rw [this, TV.get_eq]
      simp only [TV.top, TV.left, TV.right]
      by_cases hm : m = 0 <;> simp [hm]
    · have e0 : Nat.beq n 0 = false := beqF h0
      by_cases h1 : n % 2 = 1
      · have e1 : Nat.beq (n % 2) 1 = true := by rw [h1]; rfl
        have : TV.set (k + 1) t n x = .node t.top (TV.set k t.left (n / 2) x) t.right := by simp only [TV.set, e0, e1]
        rw [this, TV.get_eq]
        simp only [TV.top, TV.left, TV.right]
        by_cases hm : m = 0
        · subst hm; rw [if_pos rfl, if_neg (Ne.symm h0), if_pos rfl]
        · rw [if_neg hm, if_neg hm]
          by_cases hm1 : m % 2 = 1
          · rw [if_pos hm1, if_pos hm1, ih _ _ _ _ (by omega)]
            by_cases e : m = n
            · subst e; simp
            · rw [if_neg e, if_neg (by omega)]
          · rw [if_neg hm1, if_neg hm1, if_neg (by omega)]
      · have e1 : Nat.beq (n % 2) 1 = false := beqF h1
        have : TV.set (k + 1) t n x = .node t.top t.left (TV.set k t.right (n / 2 - 1) x) := by simp only [TV.set, e0, e1]
        rw [this, TV.get_eq]
        simp only [TV.top, TV.left, TV.right]
        by_cases hm : m = 0
        · subst hm; rw [if_pos rfl, if_neg (Ne.symm h0), if_pos rfl]
        · rw [if_neg hm, if_neg hm]
          by_cases hm1 : m % 2 = 1
          · rw [if_pos hm1, if_pos hm1, if_neg (by omega)]
          · rw [if_neg hm1, if_neg hm1, ih _ _ _ _ (by omega)]
            by_cases e : m = n
            · subst e; simp
            · rw [if_neg e, if_neg (by omega)]

structure St where
  T : TV
  m : Nat
  H : Tr
  n : Nat

def St.ev (s : St) : Operand → Value
  | .tmp t => s.T.get t
  | .const v => v
  | .global g => .pointer (some ⟨g, 0, none⟩)
  | .func f => .func (.func f) #[] #[]
def tvDepth : Nat := 12
def St.put (s : St) (dst : Option Tmp) (v : Value) : St :=
  match dst with
  | none => s
  | some d => if d < s.m then { s with T := TV.set tvDepth s.T d v } else s
def St.mem (s : St) (H : Tr) (n : Nat) : St := { s with H := H, n := n }

structure Fr (η : Env) (s : St) (a : Act) : Prop where
  small : s.m < 4000
  defers : a.defers = []
  size : a.tmps.size = s.m
  val : ∀ i, i < s.m → a.tmps[i]? = some (rV η (s.T.get i))
  wf : ∀ i, Wf s.n (s.T.get i)
  out : ∀ i, s.m ≤ i → s.T.get i = undef

section
variable {P : Program} {n0 : Nat} {w0 : World} {H : Tr} {n : Nat} {η : Env} {W : World} {s : St} {a : Act}

theorem Fr.good (h : Fr η s a) (hf : Fix n0 η) (hn : n0 ≤ s.n) : Good n0 η s.n s.ev a.eval := by
  intro x hx
  cases x with
  | tmp t =>
    refine ⟨?_, h.wf t⟩
    by_cases ht : t < s.m
    · simp [Act.eval, St.ev, h.val t ht]
    · have ht' : s.m ≤ t := Nat.le_of_not_lt ht
      have : a.tmps[t]? = none := Array.getElem?_eq_none (by rw [h.size]; exact ht')
      simp [Act.eval, St.ev, this, h.out t ht']
  | const v =>
    simp only [okOp] at hx
    exact ⟨(fixed_spec hf 4 v hx).symm, Wf.of_fixed hx hn⟩
  | global g =>
    simp only [okOp, decide_eq_true_eq] at hx
    refine ⟨?_, Wf.ptr (by omega)⟩
    simp [Act.eval, St.ev, rA, hf g hx]
  | func f =>
    refine ⟨?_, Wf.func_mk (by intro v hv; simp [St.ev] at hv) (by intro v hv; simp [St.ev] at hv)⟩
    simp [Act.eval, St.ev, rFn]
theorem tv_get_set {t : TV} {n m : Nat} {x : Value} (h : n < 4000) : (TV.set tvDepth t n x).get m = if m = n then x else t.get m :=
  TV.get_set tvDepth t n m x (by unfold tvDepth; omega)
/-- A temporary set. -/
theorem Fr.put (h : Fr η s a) {dst : Option Tmp} {v : Value} (hv : Wf s.n v) : Fr η (s.put dst v) (a.put dst (rV η v)) := by
  cases dst with
  | none => exact h
  | some d =>
    simp only [St.put, Act.put]
    split
    · rename_i hd
      have hg : ∀ m, (TV.set tvDepth s.T d v).get m = if m = d then v else s.T.get m := fun m => tv_get_set (Nat.lt_trans hd h.small)
      refine ⟨h.small, h.defers, by simp [h.size], fun i hi => ?_, fun i => ?_, fun i hi => ?_⟩
      · dsimp only
        rw [hg]
        by_cases e : i = d
        · subst e; simp [h.size, hd]
        · rw [if_neg e, Array.getElem?_setIfInBounds_ne (Ne.symm e)]; exact h.val i hi
      · dsimp only
        rw [hg]
        split
        · exact hv
        · exact h.wf i
      · dsimp only at hi ⊢
        rw [hg, if_neg (fun e => Nat.lt_irrefl d (Nat.lt_of_lt_of_le hd (by rw [← e]; exact hi)))]; exact h.out i hi
    · rename_i hd
      refine ⟨h.small, h.defers, by simp [h.size], fun i hi => ?_, h.wf, h.out⟩
      have : i ≠ d := fun e => hd (by rw [← e]; exact hi)
      dsimp only
      rw [Array.getElem?_setIfInBounds_ne (Ne.symm this)]; exact h.val i hi
/-- The memory turned. -/
theorem Fr.mem (h : Fr η s a) {η' : Env} {H : Tr} {n : Nat} (ha : Agree s.n η η') (hn : s.n ≤ n) : Fr η' (s.mem H n) a :=
  ⟨h.small, h.defers, h.size, fun i hi => by rw [h.val i hi]; exact congrArg some (h.wf i η η' ha).symm, fun i => (h.wf i).mono hn, h.out⟩

def yieldC (all : Array Oper) (s : St) (j : Nat) : Option Bool :=
  match (all[j]?).bind (·.dst) with
  | some d => if d < s.m then match s.T.get d with
    | .bool b => some b
    | _ => none
    else none
  | none => none
theorem Fr.yielded (h : Fr η s a) (all : Array Oper) : yielded all a.tmps = yieldC all s := by
  funext j
  unfold Go.yielded yieldC
  cases (all[j]?).bind (·.dst) with
  | none => rfl
  | some d =>
    simp only [Option.bind_some]
    by_cases hd : d < s.m
    · rw [h.val d hd, if_pos hd]
      cases hx : s.T.get d with
      | pointer p => cases p <;> simp
      | slice p => cases p <;> simp
      | map p => cases p <;> simp
      | _ => simp
    · have : a.tmps[d]? = none := Array.getElem?_eq_none (by rw [h.size]; exact Nat.le_of_not_lt hd)
      rw [this, if_neg hd]

end

/-! ### Code -/
structure Rv where
  v : Value
  H : Tr
  n : Nat
inductive X where
  | normal
  | exit (id : Nat)
  | ret
def X.to : X → Exit
  | .normal => .normal
  | .exit id => .exit id
  | .ret => .ret

def bindL {α β : Type} (f : α → Option (List β)) : List α → Option (List β)
  | [] => some []
  | [x] => f x
  | x :: l => match f x with
    | none => none
    | some u => match bindL f l with
      | none => none
      | some v => some (u ++ v)
theorem bindL_mem {α β : Type} {f : α → Option (List β)} : ∀ {l : List α} {r : List β}, bindL f l = some r → ∀ x ∈ l, ∃ u, f x = some u ∧ ∀ y ∈ u, y ∈ r
  | [], r, h, x, hx => by simp at hx
  | [a], r, h, x, hx => by
    simp only [bindL] at h
    simp only [List.mem_singleton] at hx; subst hx
    exact ⟨r, h, fun y hy => hy⟩
  | a :: b :: l, r, h, x, hx => by
    simp only [bindL] at h
    cases hf : f a with
    | none => rw [hf] at h; simp at h
    | some u =>
      rw [hf] at h
      dsimp only at h
      cases hb : bindL f (b :: l) with
      | none => rw [hb] at h; simp at h
      | some v =>
        rw [hb] at h
        simp only [Option.some.injEq] at h; subst h
        rcases List.mem_cons.1 hx with rfl | hx
        · exact ⟨u, hf, fun y hy => List.mem_append_left _ hy⟩
        · obtain ⟨u', h1, h2⟩ := bindL_mem hb x hx
          exact ⟨u', h1, fun y hy => List.mem_append_right _ (h2 y hy)⟩

abbrev Caller := FuncId → List Value → Tr → Nat → Option (List Rv)

/-- The operands may be looked at. -/
def opOk (n0 : Nat) (o : Oper) : Bool := o.op.operands.toList.all (okOp n0)
def opsOk (n0 : Nat) (ops : Array Oper) : Bool := ops.toList.all (opOk n0)
/-- What turns memory, or calls. -/
def evMem (P : Program) (n0 : Nat) (H : Tr) (n : Nat) (ρ : Operand → Value) (o : Oper) : Option (List Res) :=
  match evOp P n0 H n ρ o.op with
  | some rs => some rs
  | none => match evPure P n0 ρ o with
    | some v => some [⟨.val v, H, n⟩]
    | none => none
def stepMem (P : Program) (n0 : Nat) (call : Caller) (o : Oper) (s : St) : Option (List St) :=
  match evMem P n0 s.H s.n s.ev o with
  | none => none
  | some rs => bindL (fun r => match r.out with
    | .val v => some [(s.mem r.H r.n).put o.dst v]
    | .skip => some [(s.mem r.H r.n).put o.dst undef]
    | .enter f args => match call f args r.H r.n with
      | none => none
      | some outs => some (outs.map fun q => (s.mem q.H q.n).put o.dst q.v)) rs
/-- One operation. -/
def stepOp (P : Program) (n0 : Nat) (call : Caller) (all : Array Oper) (o : Oper) (s : St) : Option (List St) :=
  match Region.wanted o (yieldC all s) with
  | false => some [s.put o.dst undef]
  | true => match evVal P n0 s.H s.ev o.op with
    | some v => some [s.put o.dst v]
    | none => stepMem P n0 call o s
def evOps (P : Program) (n0 : Nat) (call : Caller) (all : Array Oper) : List Oper → St → Option (List St)
  | [], s => some [s]
  | o :: rest, s => match stepOp P n0 call all o s with
    | none => none
    | some ss => bindL (evOps P n0 call all rest) ss


/-- What a caller says holds. -/
def CallOk (P : Program) (n0 : Nat) (w0 : World) (call : Caller) : Prop :=
  ∀ (f : FuncId) (args : List Value) (H : Tr) (n : Nat) (outs : List Rv), call f args H n = some outs → ∀ (η : Env) (W : World), Inv P n0 w0 H n η W → WfL n args →
    Calls P f (args.map (rV η)).toArray W fun e W' => ∃ q ∈ outs, ∃ η', Agree n η η' ∧ n ≤ q.n ∧ Inv P n0 w0 q.H q.n η' W' ∧ Wf q.n q.v ∧ e = .returned (rV η' q.v)

section
variable {P : Program} {n0 : Nat} {w0 : World} {H : Tr} {n : Nat} {η : Env} {W : World} {s : St} {a : Act} {call : Caller} {all : Array Oper}

@[simp] theorem St.put_n (s : St) (d : Option Tmp) (v : Value) : (s.put d v).n = s.n := by
  cases d with
  | none => rfl
  | some d => simp only [St.put]; split <;> rfl
@[simp] theorem St.put_H (s : St) (d : Option Tmp) (v : Value) : (s.put d v).H = s.H := by
  cases d with
  | none => rfl
  | some d => simp only [St.put]; split <;> rfl
theorem evMem_sound (h : Inv P n0 w0 H n η W) {ρ ρ' : Operand → Value} (hg : Good n0 η n ρ ρ') {o : Oper} (hok : ∀ x ∈ o.op.operands, okOp n0 x = true) {rs : List Res} (he : evMem P n0 H n ρ o = some rs) :
    ∃ r ∈ rs, Runs P n0 w0 η n W (execOp ρ' o) r := by
  unfold evMem at he
  split at he
  · rename_i rs' hr
    simp only [Option.some.injEq] at he; subst he
    exact evOp_sound h hg hok hr
  · split at he
    · rename_i v hv
      simp only [Option.some.injEq] at he; subst he
      obtain ⟨h1, h2⟩ := evPure_sound h.fix h.n0n hg hok hv W
      exact (Runs.same h h1 h2).one
    · simp at he
theorem opOk_spec {o : Oper} (h : opOk n0 o = true) : ∀ x ∈ o.op.operands, okOp n0 x = true := by
  simp only [opOk, List.all_eq_true] at h
  exact fun x hx => h x (by simpa using hx)
theorem stepOp_sound (hc : CallOk P n0 w0 call) (hI : Inv P n0 w0 s.H s.n η W) (hF : Fr η s a) {o : Oper} (hop : opOk n0 o = true) {ss : List St} (he : stepOp P n0 call all o s = some ss) {K : Act → World → Prop} {Q : Exit → Act → World → Prop}
    (hK : ∀ s' ∈ ss, ∀ η' a' W', Agree s.n η η' → s.n ≤ s'.n → Inv P n0 w0 s'.H s'.n η' W' → Fr η' s' a' → K a' W') :
    if Region.wanted o (yielded all a.tmps) then o.wp P a W K Q ∨ (o.asks P a W ∧ LetsOut Q) else K (a.put o.dst undef) W := by
  have hok := opOk_spec hop
  unfold stepOp at he
  rw [hF.yielded all]
  cases hw : Region.wanted o (yieldC all s) with
  | false =>
    rw [hw] at he
    simp only [Option.some.injEq] at he; subst he
    simp only [Bool.false_eq_true, if_false]
    refine hK _ (List.mem_singleton_self _) η _ W (.refl _ _) (by simp) (by simpa using hI) ?_
    have := hF.put (dst := o.dst) (Wf.undef s.n)
    rwa [rV_undef] at this
  | true =>
    rw [hw] at he
    simp only [if_true]
    left
    dsimp only at he
    cases hv : evVal P n0 s.H s.ev o.op with
    | some v =>
      rw [hv] at he
      simp only [Option.some.injEq] at he; subst he
      obtain ⟨h1, h2⟩ := evVal_sound hI.toInq (hF.good hI.fix hI.n0n) hok hv
      unfold Oper.wp
      rw [h2]
      exact hK _ (List.mem_singleton_self _) η _ W (.refl _ _) (by simp) (by simpa using hI) (hF.put h1)
    | none =>
    rw [hv] at he
    dsimp only at he
    unfold stepMem at he
    split at he
    case h_1 => simp at he
    rename_i rs hrs
    obtain ⟨r, hr, η', W', ha, hn, hI', hrun⟩ := evMem_sound hI (hF.good hI.fix hI.n0n) hok hrs
    obtain ⟨u, hu, hsub⟩ := bindL_mem he r hr
    unfold Oper.wp
    cases hout : r.out with
    | val v =>
      rw [hout] at hu hrun
      simp only [Option.some.injEq] at hu; subst hu
      obtain ⟨hwv, hrun⟩ := hrun
      rw [hrun]
      exact hK _ (hsub _ (List.mem_singleton_self _)) η' _ W' ha (by simpa [St.mem] using hn) (by simpa [St.mem] using hI') ((hF.mem ha hn).put hwv)
    | skip =>
      rw [hout] at hu hrun
      simp only [Option.some.injEq] at hu; subst hu
      rw [hrun]
      have := hK _ (hsub _ (List.mem_singleton_self _)) η' (a.put o.dst undef) W' ha (by simpa [St.mem] using hn) (by simpa [St.mem] using hI')
      exact this (by have := (hF.mem (H := r.H) ha hn).put (dst := o.dst) (Wf.undef r.n); rwa [rV_undef] at this)
    | enter f args =>
      rw [hout] at hu hrun
      obtain ⟨hwa, hrun⟩ := hrun
      rw [hrun]
      cases hcall : call f args r.H r.n with
      | none => simp [hcall] at hu
      | some outs =>
        simp only [hcall, Option.some.injEq] at hu; subst hu
        refine (hc f args r.H r.n outs hcall η' W' hI' hwa).mono fun e W2 hq => ?_
        obtain ⟨q, hq, η2, ha2, hn2, hI2, hw2, rfl⟩ := hq
        have ha3 : Agree s.n η η2 := ha.trans ha2 hn
        exact hK _ (hsub _ (List.mem_map.2 ⟨q, hq, rfl⟩)) η2 _ W2 ha3 (by simpa [St.mem] using Nat.le_trans hn hn2) (by simpa [St.mem] using hI2) ((hF.mem ha3 (Nat.le_trans hn hn2)).put hw2)
theorem evOps_sound (hc : CallOk P n0 w0 call) {Q : Exit → Act → World → Prop} : ∀ (l : List Oper) (s : St) (ss : List St) (η : Env) (a : Act) (W : World), l.all (opOk n0) = true → evOps P n0 call all l s = some ss → Inv P n0 w0 s.H s.n η W → Fr η s a →
    (∀ s' ∈ ss, ∀ η' a' W', Agree s.n η η' → s.n ≤ s'.n → Inv P n0 w0 s'.H s'.n η' W' → Fr η' s' a' → Q .normal a' W') → wpList P all Q l a W
  | [], s, ss, η, a, W, hop, he, hI, hF, hQ => by
    simp only [evOps, Option.some.injEq] at he; subst he
    exact hQ s (List.mem_singleton_self _) η a W (.refl _ _) (Nat.le_refl _) hI hF
  | o :: l, s, ss, η, a, W, hop, he, hI, hF, hQ => by
    simp only [List.all_cons, Bool.and_eq_true] at hop
    unfold evOps at he
    cases hs : stepOp P n0 call all o s with
    | none => rw [hs] at he; simp at he
    | some s1 =>
      rw [hs] at he
      dsimp only at he
      refine stepOp_sound hc hI hF hop.1 hs fun s' hs' η' a' W' ha hn hI' hF' => ?_
      obtain ⟨u, hu, hsub⟩ := bindL_mem he s' hs'
      exact evOps_sound hc l s' u η' a' W' hop.2 hu hI' hF' fun s2 hs2 η2 a2 W2 ha2 hn2 hI2 hF2 =>
        hQ s2 (hsub s2 hs2) η2 a2 W2 (ha.trans ha2 hn) (Nat.le_trans hn hn2) hI2 hF2
end
end Go.Proofs.Ytoanbjnhoggpjaa.Ev
