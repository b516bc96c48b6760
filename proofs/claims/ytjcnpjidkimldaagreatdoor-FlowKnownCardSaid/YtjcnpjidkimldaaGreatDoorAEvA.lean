/-
  A closed call evaluated: code. A closed call evaluated: two states that are the same but for their numbers count as one. A closed call evaluated: regions that draw their order. What only reads memory is taken first; what is left goes in whatever order.
-/
import Derived.Test.YtjcnpjidkimldaaGreatDoorAEvX
import Derived.Tactics
import Derived.Scope
import Derived.OrdersHeld
namespace Go.Proofs.YtjcnpjidkimldaaGreatDoor.Ev
set_option linter.unusedSimpArgs false
set_option linter.unusedVariables false
set_option maxRecDepth 100000
open Go Go.RowKit

inductive TV where
  | nil
  | node (o : Value) (l r : TV)

def TV.get : TV → Nat → Value
  | .nil, _ => undef
  | .node o l r, n => match Nat.beq n 0 with
    | true => o
    | false => match Nat.beq (n % 2) 1 with
      | true => l.get (n / 2)
      | false => r.get (n / 2 - 1)
def TV.top : TV → Value
  | .nil => undef
  | .node o _ _ => o
def TV.left : TV → TV
  | .nil => .nil
  | .node _ l _ => l
def TV.right : TV → TV
  | .nil => .nil
  | .node _ _ r => r
def TV.set : Nat → TV → Nat → Value → TV
  | 0, t, _, _ => t
  | k + 1, t, n, x => match Nat.beq n 0 with
    | true => .node x t.left t.right
    | false => match Nat.beq (n % 2) 1 with
      | true => .node t.top (TV.set k t.left (n / 2) x) t.right
      | false => .node t.top t.left (TV.set k t.right (n / 2 - 1) x)
theorem TV.get_eq (t : TV) (n : Nat) : t.get n = if n = 0 then t.top else if n % 2 = 1 then t.left.get (n / 2) else t.right.get (n / 2 - 1) := by
  cases t with
  | nil => simp [TV.get, TV.top, TV.left, TV.right]
  | node o l r =>
    simp only [TV.get, TV.top, TV.left, TV.right]
    by_cases h0 : n = 0
    · subst h0; rfl
    · have : Nat.beq n 0 = false := beqF h0
      rw [this, if_neg h0]
      by_cases h1 : n % 2 = 1
      · have : Nat.beq (n % 2) 1 = true := by rw [h1]; rfl
        rw [this, if_pos h1]
      · have : Nat.beq (n % 2) 1 = false := beqF h1
        rw [this, if_neg h1]
theorem TV.get_set : ∀ (k : Nat) (t : TV) (n m : Nat) (x : Value), n + 1 < 2 ^ k → (TV.set k t n x).get m = if m = n then x else t.get m := by
  intro k
  induction k with
  | zero => intro t n m x h; simp at h
  | succ k ih =>
    intro t n m x h
    have hp : 2 ^ (k + 1) = 2 * 2 ^ k := by rw [Nat.pow_succ]; omega
    rw [TV.get_eq t m]
    by_cases h0 : n = 0
    · subst h0
      have : TV.set (k + 1) t 0 x = .node x t.left t.right := rfl
      rw [this, TV.get_eq]
      simp only [TV.top, TV.left, TV.right]
      by_cases hm : m = 0 <;> simp [hm]
    · have e0 : Nat.beq n 0 = false := beqF h0
      by_cases h1 : n % 2 = 1
      · have e1 : Nat.beq (n % 2) 1 = true := by rw [h1]; rfl
        have : TV.set (k + 1) t n x = .node t.top (TV.set k t.left (n / 2) x) t.right := by simp only [TV.set, e0, e1]
        rw [this, TV.get_eq]
        simp only [TV.top, TV.left, TV.right]
        by_cases hm : m = 0
        · subst hm; rw [if_pos rfl, if_neg (Ne.symm h0), if_pos rfl]
        · rw [if_neg hm, if_neg hm]
          by_cases hm1 : m % 2 = 1
          · rw [if_pos hm1, if_pos hm1, ih _ _ _ _ (by omega)]
            by_cases e : m = n
            · subst e; simp
            · rw [if_neg e, if_neg (by omega)]
          · rw [if_neg hm1, if_neg hm1, if_neg (by omega)]
      · have e1 : Nat.beq (n % 2) 1 = false := beqF h1
        have : TV.set (k + 1) t n x = .node t.top t.left (TV.set k t.right (n / 2 - 1) x) := by simp only [TV.set, e0, e1]
        rw [this, TV.get_eq]
        simp only [TV.top, TV.left, TV.right]
        by_cases hm : m = 0
        · subst hm; rw [if_pos rfl, if_neg (Ne.symm h0), if_pos rfl]
        · rw [if_neg hm, if_neg hm]
          by_cases hm1 : m % 2 = 1
          · rw [if_pos hm1, if_pos hm1, if_neg (by omega)]
          · rw [if_neg hm1, if_neg hm1, ih _ _ _ _ (by omega)]
            by_cases e : m = n
            · subst e; simp
            · rw [if_neg e, if_neg (by omega)]

structure St where
  T : TV
  m : Nat
  H : Tr
  n : Nat

def St.ev (s : St) : Operand → Value
  | .tmp t => s.T.get t
  | .const v => v
  | .global g => .pointer (some ⟨g, 0, none⟩)
  | .func f => .func (.func f) #[] #[]
def tvDepth : Nat := 12
def St.put (s : St) (dst : Option Tmp) (v : Value) : St :=
  match dst with
  | none => s
  | some d => if d < s.m then { s with T := TV.set tvDepth s.T d v } else s
def St.mem (s : St) (H : Tr) (n : Nat) : St := { s with H := H, n := n }

structure Fr (η : Env) (s : St) (a : Act) : Prop where
  small : s.m < 4000
  defers : a.defers = []
  size : a.tmps.size = s.m
  val : ∀ i, i < s.m → a.tmps[i]? = some (rV η (s.T.get i))
  wf : ∀ i, Wf s.n (s.T.get i)
  out : ∀ i, s.m ≤ i → s.T.get i = undef

section
variable {P : Program} {n0 : Nat} {w0 : World} {H : Tr} {n : Nat} {η : Env} {W : World} {s : St} {a : Act}

theorem Fr.good (h : Fr η s a) (hf : Fix n0 η) (hn : n0 ≤ s.n) : Good n0 η s.n s.ev a.eval := by
  intro x hx
  cases x with
  | tmp t =>
    refine ⟨?_, h.wf t⟩
    by_cases ht : t < s.m
    · simp [Act.eval, St.ev, h.val t ht]
    · have ht' : s.m ≤ t := Nat.le_of_not_lt ht
      have : a.tmps[t]? = none := Array.getElem?_eq_none (by rw [h.size]; exact ht')
      simp [Act.eval, St.ev, this, h.out t ht']
  | const v =>
    simp only [okOp] at hx
    exact ⟨(fixed_spec hf 4 v hx).symm, Wf.of_fixed hx hn⟩
  | global g =>
    simp only [okOp, decide_eq_true_eq] at hx
    refine ⟨?_, Wf.ptr (by omega)⟩
    simp [Act.eval, St.ev, rA, hf g hx]
  | func f =>
    refine ⟨?_, Wf.func_mk (by intro v hv; simp [St.ev] at hv) (by intro v hv; simp [St.ev] at hv)⟩
    simp [Act.eval, St.ev, rFn]
theorem tv_get_set {t : TV} {n m : Nat} {x : Value} (h : n < 4000) : (TV.set tvDepth t n x).get m = if m = n then x else t.get m :=
  TV.get_set tvDepth t n m x (by unfold tvDepth; omega)
/-- A temporary set. -/
theorem Fr.put (h : Fr η s a) {dst : Option Tmp} {v : Value} (hv : Wf s.n v) : Fr η (s.put dst v) (a.put dst (rV η v)) := by
  cases dst with
  | none => exact h
  | some d =>
    simp only [St.put, Act.put]
    split
    · rename_i hd
      have hg : ∀ m, (TV.set tvDepth s.T d v).get m = if m = d then v else s.T.get m := fun m => tv_get_set (Nat.lt_trans hd h.small)
      refine ⟨h.small, h.defers, by simp [h.size], fun i hi => ?_, fun i => ?_, fun i hi => ?_⟩
      · dsimp only
        rw [hg]
        by_cases e : i = d
        · subst e; simp [h.size, hd]
        · rw [if_neg e, Array.getElem?_setIfInBounds_ne (Ne.symm e)]; exact h.val i hi
      · dsimp only
        rw [hg]
        split
        · exact hv
        · exact h.wf i
      · dsimp only at hi ⊢
        rw [hg, if_neg (fun e => Nat.lt_irrefl d (Nat.lt_of_lt_of_le hd (by rw [← e]; exact hi)))]; exact h.out i hi
    · rename_i hd
      refine ⟨h.small, h.defers, by simp [h.size], fun i hi => ?_, h.wf, h.out⟩
      have : i ≠ d := fun e => hd (by rw [← e]; exact hi)
      dsimp only
      rw [Array.getElem?_setIfInBounds_ne (Ne.symm this)]; exact h.val i hi
/-- The memory turned. -/
theorem Fr.mem (h : Fr η s a) {η' : Env} {H : Tr} {n : Nat} (ha : Agree s.n η η') (hn : s.n ≤ n) : Fr η' (s.mem H n) a :=
  ⟨h.small, h.defers, h.size, fun i hi => by rw [h.val i hi]; exact congrArg some (h.wf i η η' ha).symm, fun i => (h.wf i).mono hn, h.out⟩

def yieldC (all : Array Oper) (s : St) (j : Nat) : Option Bool :=
  match (all[j]?).bind (·.dst) with
  | some d => if d < s.m then match s.T.get d with
    | .bool b => some b
    | _ => none
    else none
  | none => none
theorem Fr.yielded (h : Fr η s a) (all : Array Oper) : yielded all a.tmps = yieldC all s := by
  funext j
  unfold Go.yielded yieldC
  cases (all[j]?).bind (·.dst) with
  | none => rfl
  | some d =>
    simp only [Option.bind_some]
    by_cases hd : d < s.m
    · rw [h.val d hd, if_pos hd]
      cases hx : s.T.get d with
      | pointer p => cases p <;> simp
      | slice p => cases p <;> simp
      | map p => cases p <;> simp
      | _ => simp
    · have : a.tmps[d]? = none := Array.getElem?_eq_none (by rw [h.size]; exact Nat.le_of_not_lt hd)
      rw [this, if_neg hd]

end

/-! ### Code -/
structure Rv where
  v : Value
  H : Tr
  n : Nat
inductive X where
  | normal
  | exit (id : Nat)
  | ret
def X.to : X → Exit
  | .normal => .normal
  | .exit id => .exit id
  | .ret => .ret

def bindL {α β : Type} (f : α → Option (List β)) : List α → Option (List β)
  | [] => some []
  | [x] => f x
  | x :: l => match f x with
    | none => none
    | some u => match bindL f l with
      | none => none
      | some v => some (u ++ v)
theorem bindL_mem {α β : Type} {f : α → Option (List β)} : ∀ {l : List α} {r : List β}, bindL f l = some r → ∀ x ∈ l, ∃ u, f x = some u ∧ ∀ y ∈ u, y ∈ r
  | [], r, h, x, hx => by simp at hx
  | [a], r, h, x, hx => by
    simp only [bindL] at h
    simp only [List.mem_singleton] at hx; subst hx
    exact ⟨r, h, fun y hy => hy⟩
  | a :: b :: l, r, h, x, hx => by
    simp only [bindL] at h
    cases hf : f a with
    | none => rw [hf] at h; simp at h
    | some u =>
      rw [hf] at h
      dsimp only at h
      cases hb : bindL f (b :: l) with
      | none => rw [hb] at h; simp at h
      | some v =>
        rw [hb] at h
        simp only [Option.some.injEq] at h; subst h
        rcases List.mem_cons.1 hx with rfl | hx
        · exact ⟨u, hf, fun y hy => List.mem_append_left _ hy⟩
        · obtain ⟨u', h1, h2⟩ := bindL_mem hb x hx
          exact ⟨u', h1, fun y hy => List.mem_append_right _ (h2 y hy)⟩

abbrev Caller := FuncId → List Value → Tr → Nat → Option (List Rv)

/-- The operands may be looked at. -/
def opOk (n0 : Nat) (o : Oper) : Bool := o.op.operands.toList.all (okOp n0)
def opsOk (n0 : Nat) (ops : Array Oper) : Bool := ops.toList.all (opOk n0)
/-- What turns memory, or calls. -/
def evMem (P : Program) (n0 : Nat) (H : Tr) (n : Nat) (ρ : Operand → Value) (o : Oper) : Option (List Res) :=
  match evOp P n0 H n ρ o.op with
  | some rs => some rs
  | none => match evPure P n0 ρ o with
    | some v => some [⟨.val v, H, n⟩]
    | none => none
def stepMem (P : Program) (n0 : Nat) (call : Caller) (o : Oper) (s : St) : Option (List St) :=
  match evMem P n0 s.H s.n s.ev o with
  | none => none
  | some rs => bindL (fun r => match r.out with
    | .val v => some [(s.mem r.H r.n).put o.dst v]
    | .skip => some [(s.mem r.H r.n).put o.dst undef]
    | .enter f args => match call f args r.H r.n with
      | none => none
      | some outs => some (outs.map fun q => (s.mem q.H q.n).put o.dst q.v)) rs
/-- One operation. -/
def stepOp (P : Program) (n0 : Nat) (call : Caller) (all : Array Oper) (o : Oper) (s : St) : Option (List St) :=
  match Region.wanted o (yieldC all s) with
  | false => some [s.put o.dst undef]
  | true => match evVal P n0 s.H s.ev o.op with
    | some v => some [s.put o.dst v]
    | none => stepMem P n0 call o s
def evOps (P : Program) (n0 : Nat) (call : Caller) (all : Array Oper) : List Oper → St → Option (List St)
  | [], s => some [s]
  | o :: rest, s => match stepOp P n0 call all o s with
    | none => none
    | some ss => bindL (evOps P n0 call all rest) ss


/-- What a caller says holds. -/
def CallOk (P : Program) (n0 : Nat) (w0 : World) (call : Caller) : Prop :=
  ∀ (f : FuncId) (args : List Value) (H : Tr) (n : Nat) (outs : List Rv), call f args H n = some outs → ∀ (η : Env) (W : World), Inv P n0 w0 H n η W → WfL n args →
    Calls P f (args.map (rV η)).toArray W fun e W' => ∃ q ∈ outs, ∃ η', Agree n η η' ∧ n ≤ q.n ∧ Inv P n0 w0 q.H q.n η' W' ∧ Wf q.n q.v ∧ e = .returned (rV η' q.v)

section
variable {P : Program} {n0 : Nat} {w0 : World} {H : Tr} {n : Nat} {η : Env} {W : World} {s : St} {a : Act} {call : Caller} {all : Array Oper}

@[simp] theorem St.put_n (s : St) (d : Option Tmp) (v : Value) : (s.put d v).n = s.n := by
  cases d with
  | none => rfl
  | some d => simp only [St.put]; split <;> rfl
@[simp] theorem St.put_H (s : St) (d : Option Tmp) (v : Value) : (s.put d v).H = s.H := by
  cases d with
  | none => rfl
  | some d => simp only [St.put]; split <;> rfl
theorem evMem_sound (h : Inv P n0 w0 H n η W) {ρ ρ' : Operand → Value} (hg : Good n0 η n ρ ρ') {o : Oper} (hok : ∀ x ∈ o.op.operands, okOp n0 x = true) {rs : List Res} (he : evMem P n0 H n ρ o = some rs) :
    ∃ r ∈ rs, Runs P n0 w0 η n W (execOp ρ' o) r := by
  unfold evMem at he
  split at he
  · rename_i rs' hr
    simp only [Option.some.injEq] at he; subst he
    exact evOp_sound h hg hok hr
  · split at he
    · rename_i v hv
      simp only [Option.some.injEq] at he; subst he
      obtain ⟨h1, h2⟩ := evPure_sound h.fix h.n0n hg hok hv W
      exact (Runs.same h h1 h2).one
    · simp at he
theorem opOk_spec {o : Oper} (h : opOk n0 o = true) : ∀ x ∈ o.op.operands, okOp n0 x = true := by
  simp only [opOk, List.all_eq_true] at h
  exact fun x hx => h x (by simpa using hx)
theorem stepOp_sound (hc : CallOk P n0 w0 call) (hI : Inv P n0 w0 s.H s.n η W) (hF : Fr η s a) {o : Oper} (hop : opOk n0 o = true) {ss : List St} (he : stepOp P n0 call all o s = some ss) {K : Act → World → Prop} {Q : Exit → Act → World → Prop}
    (hK : ∀ s' ∈ ss, ∀ η' a' W', Agree s.n η η' → s.n ≤ s'.n → Inv P n0 w0 s'.H s'.n η' W' → Fr η' s' a' → K a' W') :
    if Region.wanted o (yielded all a.tmps) then o.wp P a W K Q ∨ (o.asks P a W ∧ LetsOut Q) else K (a.put o.dst undef) W := by
  have hok := opOk_spec hop
  unfold stepOp at he
  rw [hF.yielded all]
  cases hw : Region.wanted o (yieldC all s) with
  | false =>
    rw [hw] at he
    simp only [Option.some.injEq] at he; subst he
    simp only [Bool.false_eq_true, if_false]
    refine hK _ (List.mem_singleton_self _) η _ W (.refl _ _) (by simp) (by simpa using hI) ?_
    have := hF.put (dst := o.dst) (Wf.undef s.n)
    rwa [rV_undef] at this
  | true =>
    rw [hw] at he
    simp only [if_true]
    left
    dsimp only at he
    cases hv : evVal P n0 s.H s.ev o.op with
    | some v =>
      rw [hv] at he
      simp only [Option.some.injEq] at he; subst he
      obtain ⟨h1, h2⟩ := evVal_sound hI.toInq (hF.good hI.fix hI.n0n) hok hv
      unfold Oper.wp
      rw [h2]
      exact hK _ (List.mem_singleton_self _) η _ W (.refl _ _) (by simp) (by simpa using hI) (hF.put h1)
    | none =>
    rw [hv] at he
    dsimp only at he
    unfold stepMem at he
    split at he
    case h_1 => simp at he
    rename_i rs hrs
    obtain ⟨r, hr, η', W', ha, hn, hI', hrun⟩ := evMem_sound hI (hF.good hI.fix hI.n0n) hok hrs
    obtain ⟨u, hu, hsub⟩ := bindL_mem he r hr
    unfold Oper.wp
    cases hout : r.out with
    | val v =>
      rw [hout] at hu hrun
      simp only [Option.some.injEq] at hu; subst hu
      obtain ⟨hwv, hrun⟩ := hrun
      rw [hrun]
      exact hK _ (hsub _ (List.mem_singleton_self _)) η' _ W' ha (by simpa [St.mem] using hn) (by simpa [St.mem] using hI') ((hF.mem ha hn).put hwv)
    | skip =>
      rw [hout] at hu hrun
      simp only [Option.some.injEq] at hu; subst hu
      rw [hrun]
      have := hK _ (hsub _ (List.mem_singleton_self _)) η' (a.put o.dst undef) W' ha (by simpa [St.mem] using hn) (by simpa [St.mem] using hI')
      exact this (by have := (hF.mem (H := r.H) ha hn).put (dst := o.dst) (Wf.undef r.n); rwa [rV_undef] at this)
    | enter f args =>
      rw [hout] at hu hrun
      obtain ⟨hwa, hrun⟩ := hrun
      rw [hrun]
      cases hcall : call f args r.H r.n with
      | none => simp [hcall] at hu
      | some outs =>
        simp only [hcall, Option.some.injEq] at hu; subst hu
        refine (hc f args r.H r.n outs hcall η' W' hI' hwa).mono fun e W2 hq => ?_
        obtain ⟨q, hq, η2, ha2, hn2, hI2, hw2, rfl⟩ := hq
        have ha3 : Agree s.n η η2 := ha.trans ha2 hn
        exact hK _ (hsub _ (List.mem_map.2 ⟨q, hq, rfl⟩)) η2 _ W2 ha3 (by simpa [St.mem] using Nat.le_trans hn hn2) (by simpa [St.mem] using hI2) ((hF.mem ha3 (Nat.le_trans hn hn2)).put hw2)
theorem evOps_sound (hc : CallOk P n0 w0 call) {Q : Exit → Act → World → Prop} : ∀ (l : List Oper) (s : St) (ss : List St) (η : Env) (a : Act) (W : World), l.all (opOk n0) = true → evOps P n0 call all l s = some ss → Inv P n0 w0 s.H s.n η W → Fr η s a →
    (∀ s' ∈ ss, ∀ η' a' W', Agree s.n η η' → s.n ≤ s'.n → Inv P n0 w0 s'.H s'.n η' W' → Fr η' s' a' → Q .normal a' W') → wpList P all Q l a W
  | [], s, ss, η, a, W, hop, he, hI, hF, hQ => by
    simp only [evOps, Option.some.injEq] at he; subst he
    exact hQ s (List.mem_singleton_self _) η a W (.refl _ _) (Nat.le_refl _) hI hF
  | o :: l, s, ss, η, a, W, hop, he, hI, hF, hQ => by
    simp only [List.all_cons, Bool.and_eq_true] at hop
    unfold evOps at he
    cases hs : stepOp P n0 call all o s with
    | none => rw [hs] at he; simp at he
    | some s1 =>
      rw [hs] at he
      dsimp only at he
      refine stepOp_sound hc hI hF hop.1 hs fun s' hs' η' a' W' ha hn hI' hF' => ?_
      obtain ⟨u, hu, hsub⟩ := bindL_mem he s' hs'
      exact evOps_sound hc l s' u η' a' W' hop.2 hu hI' hF' fun s2 hs2 η2 a2 W2 ha2 hn2 hI2 hF2 =>
        hQ s2 (hsub s2 hs2) η2 a2 W2 (ha.trans ha2 hn) (Nat.le_trans hn hn2) hI2 hF2
end
end Go.Proofs.YtjcnpjidkimldaaGreatDoor.Ev

namespace Go.Proofs.YtjcnpjidkimldaaGreatDoor.Ev
set_option linter.unusedSimpArgs false
set_option linter.unusedVariables false
set_option maxRecDepth 100000
open Go Go.RowKit

def Env.comp (η : Env) (σ : Nat → Nat) : Env := { blk := fun i => η.blk (σ i), cap := fun i => η.cap (σ i) }
/-- The addresses' numbers turned by σ, all else the same. -/
def reqA (σ : Nat → Nat) (a b : Addr) : Bool := Nat.beq (σ a.block) b.block && Nat.beq a.off b.off && decide (a.spot = b.spot)
mutual
def req (σ : Nat → Nat) : Nat → Value → Value → Bool
  | _, .bool a, .bool b => decide (a = b)
  | _, .int k a, .int j b => kEq k j && iEq a b
  | _, .string a, .string b => decide (a.data.toList = b.data.toList)
  | _, .pointer none, .pointer none => true
  | _, .pointer (some a), .pointer (some b) => reqA σ a b
  | _, .slice none n c, .slice none m d => Nat.beq n m && Nat.beq c d
  | _, .slice (some a) n c, .slice (some b) m d => reqA σ a b && Nat.beq n m && Nat.beq c d
  | _, .map none, .map none => true
  | _, .map (some a), .map (some b) => Nat.beq (σ a) b
  | _, .nilFunc, .nilFunc => true
  | _, .nilIface, .nilIface => true
  | k + 1, .iface t v, .iface u w => Nat.beq t u && req σ k v w
  | k + 1, .agg a, .agg b => reqL σ k a.toList b.toList
  | k + 1, .tuple a, .tuple b => reqL σ k a.toList b.toList
  | k + 1, .func (.func f) a b, .func (.func g) c d => Nat.beq f g && reqL σ k a.toList c.toList && reqL σ k b.toList d.toList
  | _, _, _ => false
def reqL (σ : Nat → Nat) : Nat → List Value → List Value → Bool
  | _, [], [] => true
  | k + 1, v :: l, w :: r => req σ k v w && reqL σ k l r
  | _, _, _ => false
end
theorem ba_eq' {a b : ByteArray} (h : a.data.toList = b.data.toList) : a = b := by
  cases a with | mk x => cases b with | mk y =>
  have : x = y := Array.ext' h
  rw [this]
theorem reqA_spec {σ : Nat → Nat} {a b : Addr} (h : reqA σ a b = true) (η : Env) : rA η b = rA (η.comp σ) a ∧ b.block = σ a.block := by
  simp only [reqA, Bool.and_eq_true, decide_eq_true_eq] at h
  obtain ⟨⟨h1, h2⟩, h3⟩ := h
  have e1 := Nat.eq_of_beq_eq_true h1
  have e2 := Nat.eq_of_beq_eq_true h2
  refine ⟨?_, e1.symm⟩
  simp only [rA, Env.comp, e1, e2, h3]
theorem iEq_spec {a b : Int} (h : iEq a b = true) : a = b := by rw [iEq_eq] at h; simpa using h
theorem arr_of_list {f g : Value → Value} {a b : Array Value} (h : b.toList.map f = a.toList.map g) : b.map f = a.map g := by
  apply Array.ext'; simpa using h
theorem req_spec (σ : Nat → Nat) : ∀ k, (∀ a b, req σ k a b = true → ∀ η, rV η b = rV (η.comp σ) a) ∧ (∀ l r, reqL σ k l r = true → ∀ η, r.map (rV η) = l.map (rV (η.comp σ))) := by
  intro k
  induction k with
  | zero =>
    refine ⟨fun a b h η => ?_, fun l r h η => ?_⟩
    · unfold req at h
      split at h <;> (try simp only [Bool.and_eq_true, decide_eq_true_eq, Bool.false_eq_true, reduceCtorEq] at h)
      all_goals first
        | (exact absurd h id)
        | rfl
        | (rw [h]; simp; done)
        | (rw [kEq_spec h.1, iEq_spec h.2]; simp; done)
        | (rw [ba_eq' h]; simp; done)
        | (simp [(reqA_spec h η).1]; done)
        | (simp [Nat.eq_of_beq_eq_true h.1, Nat.eq_of_beq_eq_true h.2]; done)
        | (simp [(reqA_spec h.1.1 η).1, Nat.eq_of_beq_eq_true h.1.2, Nat.eq_of_beq_eq_true h.2, rCap, (reqA_spec h.1.1 η).2, Env.comp]; done)
        | (simp [← Nat.eq_of_beq_eq_true h, Env.comp]; done)
        | (rename_i hk; cases hk; done)
        | (simp; done)
    · cases l <;> cases r <;> simp [reqL] at h ⊢
  | succ k ih =>
    obtain ⟨ih1, ih2⟩ := ih
    refine ⟨fun a b h η => ?_, fun l r h η => ?_⟩
    · unfold req at h
      split at h <;> (try simp only [Bool.and_eq_true, decide_eq_true_eq, Bool.false_eq_true, reduceCtorEq] at h)
      all_goals first
        | (exact absurd h id)
        | rfl
        | (rw [h]; simp; done)
        | (rw [kEq_spec h.1, iEq_spec h.2]; simp; done)
        | (rw [ba_eq' h]; simp; done)
        | (simp [(reqA_spec h η).1]; done)
        | (simp [Nat.eq_of_beq_eq_true h.1, Nat.eq_of_beq_eq_true h.2]; done)
        | (simp [(reqA_spec h.1.1 η).1, Nat.eq_of_beq_eq_true h.1.2, Nat.eq_of_beq_eq_true h.2, rCap, (reqA_spec h.1.1 η).2, Env.comp]; done)
        | (simp [← Nat.eq_of_beq_eq_true h, Env.comp]; done)
        | (rename_i hk; cases hk; rw [rV_iface, rV_iface, Nat.eq_of_beq_eq_true h.1, ih1 _ _ h.2 η]; done)
        | (rename_i hk; cases hk; rw [rV_agg, rV_agg, arr_of_list (ih2 _ _ h η)]; done)
        | (rename_i hk; cases hk; rw [rV_tuple, rV_tuple, arr_of_list (ih2 _ _ h η)]; done)
        | (rename_i hk; cases hk; rw [rV_func, rV_func, arr_of_list (ih2 _ _ h.1.2 η), arr_of_list (ih2 _ _ h.2 η), Nat.eq_of_beq_eq_true h.1.1]; rfl)
        | (simp; done)
    · cases l with
      | nil => cases r <;> simp [reqL] at h ⊢
      | cons v l => cases r with
        | nil => simp [reqL] at h
        | cons w r =>
          simp only [reqL, Bool.and_eq_true] at h
          simp only [List.map_cons, ih1 _ _ h.1 η, ih2 _ _ h.2 η]
def ereqL (σ : Nat → Nat) : List MapEntry → List MapEntry → Bool
  | [], [] => true
  | e :: l, f :: r => req σ 1000 e.key f.key && req σ 1000 e.val f.val && Nat.beq e.born f.born && ereqL σ l r
  | _, _ => false
theorem ereqL_spec (σ : Nat → Nat) : ∀ {l r : List MapEntry}, ereqL σ l r = true → ∀ η, r.map (rE η) = l.map (rE (η.comp σ))
  | [], [], _, η => rfl
  | [], _ :: _, h, η => by simp [ereqL] at h
  | _ :: _, [], h, η => by simp [ereqL] at h
  | e :: l, f :: r, h, η => by
    simp only [ereqL, Bool.and_eq_true] at h
    obtain ⟨⟨⟨h1, h2⟩, h3⟩, h4⟩ := h
    simp only [List.map_cons, ereqL_spec σ h4 η, rE, (req_spec σ _).1 _ _ h1 η, (req_spec σ _).1 _ _ h2 η]
    congr 2
    exact (Nat.eq_of_beq_eq_true h3).symm
def oreq (σ : Nat → Nat) : AObj → AObj → Bool
  | .dead, .dead => true
  | .cells a e o, .cells b f p => Nat.beq e f && decide (o = p) && reqL σ 10000 a b
  | .ro a, .ro b => reqL σ 10000 a b
  | .obj (.map es c), .obj (.map fs d) => Nat.beq c d && ereqL σ es.toList fs.toList
  | .obj (.mapIter (some m) a b c), .obj (.mapIter (some m') a' b' c') => Nat.beq (σ m) m' && Nat.beq a a' && decide (b = b') && Nat.beq c c'
  | .obj (.mapIter none a b c), .obj (.mapIter none a' b' c') => Nat.beq a a' && decide (b = b') && Nat.beq c c'
  | .obj (.stringIter s p), .obj (.stringIter t q) => decide (s.data.toList = t.data.toList) && Nat.beq p q
  | _, _ => false

def find (ps : List (Nat × Nat)) (i : Nat) : Nat :=
  match ps with
  | [] => i
  | p :: l => match Nat.beq p.1 i with
    | true => p.2
    | false => find l i
def seenIn (ps : List (Nat × Nat)) (i : Nat) : Bool :=
  match ps with
  | [] => false
  | p :: l => match Nat.beq p.1 i with
    | true => true
    | false => seenIn l i
def addP (lo x y : Nat) (ps : List (Nat × Nat)) : List (Nat × Nat) :=
  match Nat.ble lo x && Nat.ble lo y && !seenIn ps x with
  | true => (x, y) :: ps
  | false => ps
mutual
/-- A guess: which number of the one answers to which of the other. -/
def pairsV (lo : Nat) : Nat → Value → Value → List (Nat × Nat) → List (Nat × Nat)
  | _, .pointer (some a), .pointer (some b), ps => addP lo a.block b.block ps
  | _, .slice (some a) _ _, .slice (some b) _ _, ps => addP lo a.block b.block ps
  | _, .map (some a), .map (some b), ps => addP lo a b ps
  | k + 1, .iface _ v, .iface _ w, ps => pairsV lo k v w ps
  | k + 1, .agg a, .agg b, ps => pairsL lo k a.toList b.toList ps
  | k + 1, .tuple a, .tuple b, ps => pairsL lo k a.toList b.toList ps
  | k + 1, .func _ a b, .func _ c d, ps => pairsL lo k b.toList d.toList (pairsL lo k a.toList c.toList ps)
  | _, _, _, ps => ps
def pairsL (lo : Nat) : Nat → List Value → List Value → List (Nat × Nat) → List (Nat × Nat)
  | k + 1, v :: l, w :: r, ps => pairsL lo k l r (pairsV lo k v w ps)
  | _, _, _, ps => ps
end
def pairsT (lo : Nat) (s t : St) : Nat → List (Nat × Nat) → List (Nat × Nat)
  | 0, ps => ps
  | k + 1, ps => pairsT lo s t k (pairsV lo 12 (s.T.get k) (t.T.get k) ps)
def swapP (ps : List (Nat × Nat)) : List (Nat × Nat) := ps.map fun p => (p.2, p.1)
/-- What is left goes in order. -/
def fillP (lo n : Nat) (ps : List (Nat × Nat)) : List (Nat × Nat) :=
  let qs := swapP ps
  let all := (List.range (n - lo)).map (· + lo)
  ps ++ (all.filter fun i => !seenIn ps i).zip (all.filter fun i => !seenIn qs i)
def permOk (ps qs : List (Nat × Nat)) (lo n : Nat) : Bool :=
  (ps ++ qs).all (fun p => Nat.ble lo p.1 && Nat.ble (p.1 + 1) n) && (List.range (n - lo)).all fun d =>
    Nat.beq (find qs (find ps (d + lo))) (d + lo) && Nat.beq (find ps (find qs (d + lo))) (d + lo) && Nat.ble lo (find ps (d + lo)) && Nat.ble (find ps (d + lo) + 1) n && Nat.ble lo (find qs (d + lo)) && Nat.ble (find qs (d + lo) + 1) n
def sameT (σ : Nat → Nat) (s t : St) : Nat → Bool
  | 0 => true
  | k + 1 => req σ 3000 (s.T.get k) (t.T.get k) && sameT σ s t k
def sameH (σ : Nat → Nat) (s t : St) : Nat → Bool
  | 0 => true
  | k + 1 => oreq σ (s.H.get k) (t.H.get (σ k)) && sameH σ s t k
def isDead : AObj → Bool
  | .dead => true
  | _ => false
def isUndef : Value → Bool
  | .tuple vs => vs.toList.isEmpty
  | _ => false
/-- Nothing stands at n or behind. -/
def Tr.bel : Tr → Nat → Bool
  | .nil, _ => true
  | .node o l r, n => (isDead o || Nat.ble 1 n) && l.bel (n / 2) && r.bel ((n - 1) / 2)
def TV.bel : TV → Nat → Bool
  | .nil, _ => true
  | .node o l r, n => (isUndef o || Nat.ble 1 n) && l.bel (n / 2) && r.bel ((n - 1) / 2)
theorem isUndef_spec {v : Value} (h : isUndef v = true) : v = undef := by
  unfold isUndef at h
  split at h
  · rename_i vs
    have : vs = #[] := by apply Array.ext'; simpa using h
    rw [this]; rfl
  · simp at h
theorem Tr.bel_spec : ∀ (t : Tr) (n : Nat), t.bel n = true → ∀ i, n ≤ i → t.get i = .dead
  | .nil, n, _, i, _ => rfl
  | .node o l r, n, h, i, hi => by
    simp only [Tr.bel, Bool.and_eq_true, Bool.or_eq_true] at h
    obtain ⟨⟨h1, h2⟩, h3⟩ := h
    rw [Tr.get_eq]
    simp only [Tr.top, Tr.left, Tr.right]
    split
    · rcases h1 with h1 | h1
      · cases o <;> first | rfl | simp [isDead] at h1
      · have := Nat.le_of_ble_eq_true h1; omega
    · split
      · exact Tr.bel_spec l _ h2 _ (by omega)
      · exact Tr.bel_spec r _ h3 _ (by omega)
theorem TV.bel_spec : ∀ (t : TV) (n : Nat), t.bel n = true → ∀ i, n ≤ i → t.get i = undef
  | .nil, n, _, i, _ => rfl
  | .node o l r, n, h, i, hi => by
    simp only [TV.bel, Bool.and_eq_true, Bool.or_eq_true] at h
    obtain ⟨⟨h1, h2⟩, h3⟩ := h
    rw [TV.get_eq]
    simp only [TV.top, TV.left, TV.right]
    split
    · rcases h1 with h1 | h1
      · exact isUndef_spec h1
      · have := Nat.le_of_ble_eq_true h1; omega
    · split
      · exact TV.bel_spec l _ h2 _ (by omega)
      · exact TV.bel_spec r _ h3 _ (by omega)
/-- The state s is the state t, but for numbers from lo on. -/
def sameSt (lo : Nat) (s t : St) : Bool :=
  let ps := fillP lo s.n (pairsT lo s t s.m [])
  let qs := swapP ps
  Nat.beq s.n t.n && Nat.beq s.m t.m && permOk ps qs lo s.n && sameT (find ps) s t s.m && sameH (find ps) s t s.n && t.H.bel t.n && t.T.bel t.m
def mergeL (lo : Nat) : List St → List St
  | [] => []
  | t :: l => t :: (mergeL lo l).filter fun s => !sameSt lo s t

theorem find_none {ps : List (Nat × Nat)} {i : Nat} (h : ∀ p ∈ ps, p.1 ≠ i) : find ps i = i := by
  induction ps with
  | nil => rfl
  | cons p l ih =>
    simp only [find, beqF (h p List.mem_cons_self)]
    exact ih fun q hq => h q (List.mem_cons_of_mem _ hq)
theorem permOk_spec {ps qs : List (Nat × Nat)} {lo n : Nat} (h : permOk ps qs lo n = true) :
    (∀ i, i < lo ∨ n ≤ i → find ps i = i ∧ find qs i = i) ∧ (∀ i, find qs (find ps i) = i) ∧ (∀ i, find ps (find qs i) = i) ∧ (∀ i, i < n → find ps i < n ∧ find qs i < n) := by
  simp only [permOk, Bool.and_eq_true, List.all_eq_true, List.mem_append, List.mem_range] at h
  obtain ⟨h1, h2⟩ := h
  have out : ∀ i, i < lo ∨ n ≤ i → find ps i = i ∧ find qs i = i := by
    intro i hi
    constructor <;>
    · refine find_none fun p hp e => ?_
      have := h1 p (by first | exact .inl hp | exact .inr hp)
      have a := Nat.le_of_ble_eq_true this.1
      have b := Nat.le_of_ble_eq_true this.2
      omega
  have inn : ∀ i, lo ≤ i → i < n → find qs (find ps i) = i ∧ find ps (find qs i) = i ∧ find ps i < n ∧ find qs i < n := by
    intro i a b
    have := h2 (i - lo) (by omega)
    rw [Nat.sub_add_cancel a] at this
    obtain ⟨⟨⟨⟨⟨g1, g2⟩, g3⟩, g4⟩, g5⟩, g6⟩ := this
    have e4 := Nat.le_of_ble_eq_true g4
    have e6 := Nat.le_of_ble_eq_true g6
    exact ⟨Nat.eq_of_beq_eq_true g1, Nat.eq_of_beq_eq_true g2, e4, e6⟩
  refine ⟨out, fun i => ?_, fun i => ?_, fun i hi => ?_⟩
  · by_cases hi : i < lo ∨ n ≤ i
    · rw [(out i hi).1, (out i hi).2]
    · exact (inn i (by omega) (by omega)).1
  · by_cases hi : i < lo ∨ n ≤ i
    · rw [(out i hi).2, (out i hi).1]
    · exact (inn i (by omega) (by omega)).2.1
  · by_cases hlo : i < lo
    · rw [(out i (.inl hlo)).1, (out i (.inl hlo)).2]; exact ⟨hi, hi⟩
    · exact ⟨(inn i (by omega) hi).2.2.1, (inn i (by omega) hi).2.2.2⟩
theorem sameT_spec {σ : Nat → Nat} {s t : St} : ∀ {k : Nat}, sameT σ s t k = true → ∀ i, i < k → req σ 3000 (s.T.get i) (t.T.get i) = true
  | 0, _, i, hi => by omega
  | k + 1, h, i, hi => by
    simp only [sameT, Bool.and_eq_true] at h
    by_cases e : i = k
    · subst e; exact h.1
    · exact sameT_spec h.2 i (by omega)
theorem sameH_spec {σ : Nat → Nat} {s t : St} : ∀ {k : Nat}, sameH σ s t k = true → ∀ i, i < k → oreq σ (s.H.get i) (t.H.get (σ i)) = true
  | 0, _, i, hi => by omega
  | k + 1, h, i, hi => by
    simp only [sameH, Bool.and_eq_true] at h
    by_cases e : i = k
    · subst e; exact h.1
    · exact sameH_spec h.2 i (by omega)
theorem comp_agree {σ : Nat → Nat} {n : Nat} (hσ : ∀ i, i < n → σ i < n) {η η' : Env} (h : Agree n η η') : Agree n (η.comp σ) (η'.comp σ) := fun i hi => h (σ i) (hσ i hi)
theorem Wf.req {σ : Nat → Nat} {n k : Nat} (hσ : ∀ i, i < n → σ i < n) {v w : Value} (h : Wf n v) (hr : req σ k v w = true) : Wf n w := fun η η' ha => by
  rw [(req_spec σ k).1 _ _ hr η, (req_spec σ k).1 _ _ hr η']
  exact h _ _ (comp_agree hσ ha)
theorem WfL.req {σ : Nat → Nat} {n k : Nat} (hσ : ∀ i, i < n → σ i < n) {l r : List Value} (h : WfL n l) (hr : reqL σ k l r = true) : WfL n r := by
  intro w hw η η' ha
  have e1 := (req_spec σ k).2 _ _ hr η
  have e2 := (req_spec σ k).2 _ _ hr η'
  have e3 := h.map (comp_agree hσ ha)
  rw [← e1, ← e2] at e3
  exact List.map_inj_left.1 e3 w hw
section
variable {P : Program} {n0 : Nat} {w0 : World} {η : Env} {W : World} {a : Act}
/-- The environment as the other state reads it. -/
theorem oreq_ok {σ τ : Nat → Nat} {n i : Nat} (hσ : ∀ i, i < n → σ i < n) (hτ : ∀ i, τ (σ i) = i) {x y : AObj} (h : OkObj P η W n i x) (hr : oreq σ x y = true) : OkObj P (η.comp τ) W n (σ i) y := by
  have hcomp : (η.comp τ).comp σ = η := by
    cases η; simp only [Env.comp, hτ]
  have hb : (η.comp τ).blk (σ i) = η.blk i := by simp [Env.comp, hτ]
  have hcp : (η.comp τ).cap (σ i) = η.cap i := by simp [Env.comp, hτ]
  unfold oreq at hr
  split at hr
  · trivial
  · rename_i cs e o cs' f p
    simp only [Bool.and_eq_true, decide_eq_true_eq] at hr
    obtain ⟨⟨r1, r2⟩, r3⟩ := hr
    have r1 := Nat.eq_of_beq_eq_true r1
    subst r1; subst r2
    obtain ⟨hw, ex, fz, g1, g2, g3, g4⟩ := h
    have e1 := (req_spec σ _).2 _ _ r3 (η.comp τ)
    rw [hcomp] at e1
    have hl : cs'.length = cs.length := by have := congrArg List.length e1; simpa using this
    refine ⟨hw.req hσ r3, ex, fz, ?_, ?_, g3, ?_⟩
    · rw [hb, e1]; exact g1
    · rw [hl]; exact g2
    · rw [hl, hcp]; exact g4
  · rename_i cs cs'
    obtain ⟨hw, g1⟩ := h
    have e1 := (req_spec σ _).2 _ _ hr (η.comp τ)
    rw [hcomp] at e1
    refine ⟨hw.req hσ hr, fun j v hv => ?_⟩
    rw [hb]
    have hlen : cs'.length = cs.length := by have := congrArg List.length e1; simpa using this
    have hj : j < cs'.length := (List.getElem?_eq_some_iff.1 hv).1
    have hu : cs[j]? = some (cs[j]'(by omega)) := List.getElem?_eq_getElem (by omega)
    rw [g1 j _ hu]
    have := congrArg (fun l => l[j]?) e1
    simp only [List.getElem?_map, hv, hu, Option.map_some, Option.some.injEq] at this
    rw [this]
  · rename_i es c fs d
    simp only [Bool.and_eq_true] at hr
    have r1 := Nat.eq_of_beq_eq_true hr.1
    subst r1
    obtain ⟨hw, -, g⟩ := h
    have e0 : ∀ ζ, rO ζ (.map fs c) = rO (ζ.comp σ) (.map es c) := fun ζ => by
      simp only [rO_map, Obj.map.injEq, and_true]
      apply Array.ext'
      have := ereqL_spec σ hr.2 ζ
      simpa using this
    refine ⟨fun ζ ζ' ha => by rw [e0, e0]; exact hw _ _ (comp_agree hσ ha), trivial, ?_⟩
    rw [e0, hcomp, hb]; exact g
  · rename_i m a1 b1 c1 m' a2 b2 c2
    simp only [Bool.and_eq_true, decide_eq_true_eq] at hr
    obtain ⟨⟨⟨r1, r2⟩, r3⟩, r4⟩ := hr
    have r1 := Nat.eq_of_beq_eq_true r1
    have r2 := Nat.eq_of_beq_eq_true r2
    have r4 := Nat.eq_of_beq_eq_true r4
    subst r1; subst r2; subst r3; subst r4
    obtain ⟨hw, -, g⟩ := h
    have e0 : ∀ ζ, rO ζ (.mapIter (some (σ m)) a1 b1 c1) = rO (ζ.comp σ) (.mapIter (some m) a1 b1 c1) := fun ζ => rfl
    refine ⟨fun ζ ζ' ha => by rw [e0, e0]; exact hw _ _ (comp_agree hσ ha), trivial, ?_⟩
    rw [e0, hcomp, hb]; exact g
  · rename_i a1 b1 c1 a2 b2 c2
    simp only [Bool.and_eq_true, decide_eq_true_eq] at hr
    obtain ⟨⟨r2, r3⟩, r4⟩ := hr
    have r2 := Nat.eq_of_beq_eq_true r2
    have r4 := Nat.eq_of_beq_eq_true r4
    subst r2; subst r3; subst r4
    obtain ⟨hw, -, g⟩ := h
    exact ⟨fun ζ ζ' ha => rfl, trivial, by rw [hb]; exact g⟩
  · rename_i s1 p1 s2 p2
    simp only [Bool.and_eq_true, decide_eq_true_eq] at hr
    have r2 := Nat.eq_of_beq_eq_true hr.2
    have r1 := ba_eq' hr.1
    subst r1; subst r2
    obtain ⟨hw, -, g⟩ := h
    exact ⟨fun ζ ζ' ha => rfl, trivial, by rw [hb]; exact g⟩
  · simp at hr
theorem oreq_live {σ : Nat → Nat} {x y : AObj} (hr : oreq σ x y = true) (h : live y) : live x := by
  unfold oreq at hr
  split at hr <;> first | exact h | trivial | simp at hr
theorem sameSt_ok {lo : Nat} {s t : St} (h : sameSt lo s t = true) (h0 : n0 ≤ lo) (hI : Inv P n0 w0 s.H s.n η W) (hF : Fr η s a) :
    ∃ η', Agree lo η η' ∧ s.n = t.n ∧ Inv P n0 w0 t.H t.n η' W ∧ Fr η' t a := by
  unfold sameSt at h
  dsimp only at h
  generalize fillP lo s.n (pairsT lo s t s.m []) = ps at h
  simp only [Bool.and_eq_true] at h
  obtain ⟨⟨⟨⟨⟨⟨h1, h2⟩, h3⟩, h4⟩, h5⟩, h6⟩, h7⟩ := h
  have hn := Nat.eq_of_beq_eq_true h1
  have hm := Nat.eq_of_beq_eq_true h2
  obtain ⟨p1, p2, p3, p4⟩ := permOk_spec h3
  have hσ : ∀ i, i < s.n → find ps i < s.n := fun i hi => (p4 i hi).1
  have hobj : ∀ j, j < s.n → oreq (find ps) (s.H.get (find (swapP ps) j)) (t.H.get j) = true := fun j hj => by
    have := sameH_spec h5 (find (swapP ps) j) (p4 j hj).2
    rwa [p3] at this
  have hcomp : (η.comp (find (swapP ps))).comp (find ps) = η := by
    cases η; simp only [Env.comp, p2]
  refine ⟨η.comp (find (swapP ps)), fun i hi => ?_, hn, ?_, ?_⟩
  · simp only [Env.comp, (p1 i (.inl hi)).2, and_self]
  · rw [← hn]
    refine InvT.to ⟨hI.bel, hI.n0n, hI.old, fun i hi => ?_, fun i g1 g2 => ?_, fun i hi => ?_, fun i j hi hj li lj e => ?_, fun i hi => ?_, fun i hi => ?_⟩
    · simp only [Env.comp, (p1 i (.inl (by omega))).2]; exact hI.fix i hi
    · simp only [Env.comp]
      refine hI.new _ ?_ (p4 i g2).2
      rcases Nat.lt_or_ge (find (swapP ps) i) n0 with h' | h'
      · have := p3 i
        rw [(p1 _ (.inl (by omega))).1] at this
        omega
      · exact h'
    · exact hI.lt _ (p4 i hi).2
    · have l1 := oreq_live (hobj i hi) li
      have l2 := oreq_live (hobj j hj) lj
      have := hI.inj _ _ (p4 i hi).2 (p4 j hj).2 l1 l2 e
      have := congrArg (find ps) this
      rwa [p3, p3] at this
    · have := oreq_ok (τ := find (swapP ps)) hσ p2 (hI.at' _ (p4 i hi).2) (hobj i hi)
      rwa [p3] at this
    · exact Tr.bel_spec _ _ h6 i (by omega)
  · refine ⟨by rw [← hm]; exact hF.small, hF.defers, by rw [← hm]; exact hF.size, fun i hi => ?_, fun i => ?_, fun i hi => ?_⟩
    · rw [hF.val i (by omega), (req_spec _ _).1 _ _ (sameT_spec h4 i (by omega)) (η.comp (find (swapP ps))), hcomp]
    · rcases Nat.lt_or_ge i t.m with h' | h'
      · rw [← hn]; exact (hF.wf i).req hσ (sameT_spec h4 i (by omega))
      · rw [TV.bel_spec _ _ h7 i h']; exact Wf.undef _
    · exact TV.bel_spec _ _ h7 i hi
theorem mergeL_all {lo : Nat} {K : St → Prop} (hc : ∀ s t, sameSt lo s t = true → K t → K s) : ∀ (l : List St), (∀ t ∈ mergeL lo l, K t) → ∀ s ∈ l, K s
  | [], _, s, hs => by simp at hs
  | t :: l, h, s, hs => by
    have ht : K t := h t List.mem_cons_self
    rcases List.mem_cons.1 hs with rfl | hs
    · exact ht
    · refine mergeL_all hc l (fun u hu => ?_) s hs
      cases hst : sameSt lo u t with
      | true => exact hc u t hst ht
      | false => exact h u (List.mem_cons_of_mem _ (List.mem_filter.2 ⟨hu, by simp [hst]⟩))
end
end Go.Proofs.YtjcnpjidkimldaaGreatDoor.Ev

namespace Go.Proofs.YtjcnpjidkimldaaGreatDoor.Ev
set_option linter.unusedSimpArgs false
set_option linter.unusedVariables false
set_option maxRecDepth 100000
open Go Go.RowKit

/-! ### Whatever order: S holds behind each operation that is not late -/
def anyL (P : Program) (ops : Array Oper) (Q : Exit → Act → World → Prop) (S : World → Prop) (lo : Nat) : Nat → Array Bool → Act → World → Prop
  | 0, L, a, w => Region.ready .any ops L = [] ∧ Q .normal a w
  | k + 1, L, a, w => (Region.ready .any ops L = [] → Q .normal a w) ∧
      ∀ i, i ∈ Region.ready .any ops L → wpOp P ops Q i (fun a' w' => (i < lo → S w → S w') ∧ anyL P ops Q S lo k (L.setIfInBounds i true) a' w') a w
theorem anyL_any {P : Program} {ops : Array Oper} {Q : Exit → Act → World → Prop} {S : World → Prop} {lo : Nat} : ∀ (k : Nat) (L : Array Bool) (a : Act) (w : World),
    anyL P ops Q S lo k L a w → wpAny P .any ops Q k L a w
  | 0, _, _, _, h => h
  | k + 1, L, a, w, h => ⟨h.1, fun i hi => wpOp_mono (fun a' w' h' => anyL_any k _ a' w' h'.2) (h.2 i hi)⟩
/-- One operation waits for another, be it by way of others. -/
inductive Anc (ops : Array Oper) : Nat → Nat → Prop
  | direct {j : Nat} {o : Oper} {e : Edge} : ops[j]? = some o → e ∈ o.after → Region.binds .any e = true → Anc ops j e.on
  | trans {j i : Nat} {o : Oper} {e : Edge} : ops[j]? = some o → e ∈ o.after → Region.binds .any e = true → Anc ops e.on i → Anc ops j i
/-- What is listed has all listed for which it waits. -/
def Down (ops : Array Oper) (L : Array Bool) : Prop := ∀ m o, ops[m]? = some o → L.getD m false = true → ∀ e ∈ o.after, Region.binds .any e = true → L.getD e.on false = true
theorem Down.set {ops : Array Oper} {L : Array Bool} (h : Down ops L) {i : Nat} (hi : i ∈ Region.ready .any ops L) : Down ops (L.setIfInBounds i true) := by
  intro m o ho hm e he hb
  refine getD_set_true ?_
  by_cases hmi : i = m
  · subst hmi
    obtain ⟨-, o', ho', hall⟩ := mem_ready.1 hi
    rw [ho] at ho'
    simp only [Option.some.injEq] at ho'; subst ho'
    exact hall e he hb
  · rw [getD_set_ne false hmi] at hm
    exact h m o ho hm e he hb
theorem Down.anc {ops : Array Oper} {L : Array Bool} (h : Down ops L) {j i : Nat} (ha : Anc ops j i) : L.getD j false = true → L.getD i false = true := by
  induction ha with
  | direct ho he hb => exact fun hj => h _ _ ho hj _ he hb
  | trans ho he hb _ ih => exact fun hj => ih (h _ _ ho hj _ he hb)
theorem ready_anc {ops : Array Oper} {L : Array Bool} (hd : Down ops L) {j i : Nat} (hr : j ∈ Region.ready .any ops L) (ha : Anc ops j i) : L.getD i false = true := by
  obtain ⟨-, o, ho, hall⟩ := mem_ready.1 hr
  cases ha with
  | direct ho' he hb =>
    rw [ho] at ho'
    simp only [Option.some.injEq] at ho'; subst ho'
    exact hall _ he hb
  | trans ho' he hb h2 =>
    rw [ho] at ho'
    simp only [Option.some.injEq] at ho'; subst ho'
    exact hd.anc h2 (hall _ he hb)
theorem unlisted_ne {L : Array Bool} {i : Nat} (h1 : L.getD i true = false) (h2 : L.getD i false = true) : False := by
  rcases Nat.lt_or_ge i L.size with h' | h'
  · simp [h'] at h1 h2; rw [h1] at h2; cases h2
  · simp [Array.getElem?_eq_none h'] at h2
section
variable {P : Program} {ops : Array Oper} {Q : Exit → Act → World → Prop} {S : World → Prop} {lo : Nat}
/-- One that may come up, and yields its value as long as S holds, is taken first. -/
theorem anyL_first {i : Nat} {oi : Oper} {v : Value} (hi : ops[i]? = some oi) (hlate : ∀ j, lo ≤ j → j < ops.size → Anc ops j i) (hs : Region.noSelect ops = true)
    (hap : ∀ j oj, ops[j]? = some oj → j ≠ i → oi.apart ops oj = true ∨ Anc ops j i ∨ Anc ops i j)
    (hQ : ∀ c a w, Q (.panic c) (a.put oi.dst v) w → Q (.panic c) a w) : ∀ (k : Nat) (L : Array Bool) (a : Act) (w : World),
      i ∈ Region.ready .any ops L → Down ops L → YieldsIf P ops S oi v a → S w →
      anyL P ops Q S lo k (L.setIfInBounds i true) (a.put oi.dst v) w → anyL P ops Q S lo (k + 1) L a w := by
  intro k
  induction k with
  | zero =>
    intro L a w hr _ hy hS H
    refine ⟨fun h => (by rw [h] at hr; cases hr), fun j hj => ?_⟩
    by_cases hji : j = i
    · rw [hji]; exact hy.wpOp hi hS ⟨fun _ h => h, H⟩
    · have := ready_mono hj hji
      rw [H.1] at this
      cases this
  | succ k ih =>
    intro L a w hr hD hy hS H
    refine ⟨fun h => (by rw [h] at hr; cases hr), fun j hj => ?_⟩
    by_cases hji : j = i
    · rw [hji]; exact hy.wpOp hi hS ⟨fun _ h => h, H⟩
    obtain ⟨hjun, oj, hoj, hall⟩ := mem_ready.1 hj
    have hiun := (mem_ready.1 hr).1
    have hna : ¬ Anc ops j i := fun h => unlisted_ne hiun (ready_anc hD hj h)
    have hapart : oi.apart ops oj = true := (hap j oj hoj hji).resolve_right fun h => h.elim hna fun h => unlisted_ne hjun (ready_anc hD hr h)
    have hjlo : j < lo := by
      rcases Nat.lt_or_ge j lo with h' | h'
      · exact h'
      · exact absurd (hlate j h' (Array.getElem?_eq_some_iff.1 hoj).1) hna
    have hstep := wpOp_putIf hoj hapart (fun cs b => Region.noSelect_spec hs i oi cs b hi) (fun cs b => Region.noSelect_spec hs j oj cs b hoj) hQ hy (H.2 j (ready_mono hj hji))
    refine wpOp_mono (fun a' w' h3 => ⟨fun _ _ => h3.2.1 hjlo hS, ih (L.setIfInBounds j true) a' w' (ready_mono hr (Ne.symm hji)) (hD.set hj) h3.1 (h3.2.1 hjlo hS) ?_⟩) hstep
    rw [Array.setIfInBounds_comm _ _ hji]
    exact h3.2.2
/-- One that yields its value whatever memory holds is taken first, S or not. -/
theorem anyL_firstP {i : Nat} {oi : Oper} {v : Value} (hi : ops[i]? = some oi) (hs : Region.noSelect ops = true)
    (hap : ∀ j oj, ops[j]? = some oj → j ≠ i → oi.apart ops oj = true ∨ Anc ops j i ∨ Anc ops i j)
    (hQ : ∀ c a w, Q (.panic c) (a.put oi.dst v) w → Q (.panic c) a w) : ∀ (k : Nat) (L : Array Bool) (a : Act) (w : World),
      i ∈ Region.ready .any ops L → Down ops L → YieldsIf P ops (fun _ => True) oi v a →
      anyL P ops Q S lo k (L.setIfInBounds i true) (a.put oi.dst v) w → anyL P ops Q S lo (k + 1) L a w := by
  intro k
  induction k with
  | zero =>
    intro L a w hr _ hy H
    refine ⟨fun h => (by rw [h] at hr; cases hr), fun j hj => ?_⟩
    by_cases hji : j = i
    · rw [hji]; exact hy.wpOp hi trivial ⟨fun _ h => h, H⟩
    · have := ready_mono hj hji
      rw [H.1] at this
      cases this
  | succ k ih =>
    intro L a w hr hD hy H
    refine ⟨fun h => (by rw [h] at hr; cases hr), fun j hj => ?_⟩
    by_cases hji : j = i
    · rw [hji]; exact hy.wpOp hi trivial ⟨fun _ h => h, H⟩
    obtain ⟨hjun, oj, hoj, hall⟩ := mem_ready.1 hj
    have hiun := (mem_ready.1 hr).1
    have hna : ¬ Anc ops j i := fun h => unlisted_ne hiun (ready_anc hD hj h)
    have hapart : oi.apart ops oj = true := (hap j oj hoj hji).resolve_right fun h => h.elim hna fun h => unlisted_ne hjun (ready_anc hD hr h)
    have hstep := wpOp_putIf hoj hapart (fun cs b => Region.noSelect_spec hs i oi cs b hi) (fun cs b => Region.noSelect_spec hs j oj cs b hoj) hQ hy (H.2 j (ready_mono hj hji))
    refine wpOp_mono (fun a' w' h3 => ⟨h3.2.1, ih (L.setIfInBounds j true) a' w' (ready_mono hr (Ne.symm hji)) (hD.set hj) h3.1 ?_⟩) hstep
    rw [Array.setIfInBounds_comm _ _ hji]
    exact h3.2.2
end
/-- What reads nothing and may come whenever. -/
def pureOp (o : Oper) : Bool := match o.op with
  | .move _ => true
  | .extract _ _ => true
  | _ => false

/-! ### Equality of what is kept -/
mutual
def veq : Nat → Value → Value → Bool
  | _, .bool a, .bool b => decide (a = b)
  | _, .int k a, .int j b => decide (k = j) && decide (a = b)
  | _, .string a, .string b => decide (a.data.toList = b.data.toList)
  | _, .pointer a, .pointer b => decide (a = b)
  | _, .slice a n c, .slice b m d => decide (a = b) && decide (n = m) && decide (c = d)
  | _, .map a, .map b => decide (a = b)
  | _, .nilFunc, .nilFunc => true
  | _, .nilIface, .nilIface => true
  | k + 1, .iface t v, .iface u w => decide (t = u) && veq k v w
  | k + 1, .agg a, .agg b => veqL k a.toList b.toList
  | k + 1, .tuple a, .tuple b => veqL k a.toList b.toList
  | k + 1, .func f a b, .func g c d => decide (f = g) && veqL k a.toList c.toList && veqL k b.toList d.toList
  | _, _, _ => false
def veqL : Nat → List Value → List Value → Bool
  | _, [], [] => true
  | k + 1, v :: l, w :: r => veq k v w && veqL k l r
  | _, _, _ => false
end

theorem ba_eq {a b : ByteArray} (h : a.data.toList = b.data.toList) : a = b := by
  cases a with | mk x => cases b with | mk y =>
  have : x = y := Array.ext' h
  rw [this]
set_option maxHeartbeats 2000000 in
theorem veq_spec : ∀ k, (∀ a b, veq k a b = true → a = b) ∧ (∀ l r, veqL k l r = true → l = r) := by
  intro k
  induction k with
  | zero =>
    refine ⟨fun a b h => ?_, fun l r h => ?_⟩
    · cases a <;> cases b <;> simp only [veq, Bool.false_eq_true, Bool.and_eq_true, decide_eq_true_eq] at h <;> (first | rfl | (simp_all; done) | (rw [ba_eq h]))
    · cases l <;> cases r <;> simp [veqL] at h ⊢
  | succ k ih =>
    obtain ⟨ih1, ih2⟩ := ih
    refine ⟨fun a b h => ?_, fun l r h => ?_⟩
    · cases a <;> cases b <;> simp only [veq, Bool.false_eq_true, Bool.and_eq_true, decide_eq_true_eq] at h <;> (first | rfl | (rw [ba_eq h]; done) | skip)
      case bool.bool => rw [h]
      case int.int => rw [h.1, h.2]
      case pointer.pointer => rw [h]
      case slice.slice => rw [h.1.1, h.1.2, h.2]
      case map.map => rw [h]
      case func.func => rw [h.1.1, Array.ext' (ih2 _ _ h.1.2), Array.ext' (ih2 _ _ h.2)]
      case iface.iface => rw [h.1, ih1 _ _ h.2]
      case agg.agg => rw [Array.ext' (ih2 _ _ h)]
      case tuple.tuple => rw [Array.ext' (ih2 _ _ h)]
    · cases l with
      | nil => cases r <;> simp [veqL] at h ⊢
      | cons v l => cases r with
        | nil => simp [veqL] at h
        | cons w r =>
          simp only [veqL, Bool.and_eq_true] at h
          rw [ih1 _ _ h.1, ih2 _ _ h.2]
def eeqL : List MapEntry → List MapEntry → Bool
  | [], [] => true
  | e :: l, f :: r => veq 1000 e.key f.key && veq 1000 e.val f.val && decide (e.born = f.born) && eeqL l r
  | _, _ => false
theorem eeqL_spec : ∀ {l r : List MapEntry}, eeqL l r = true → l = r
  | [], [], _ => rfl
  | [], _ :: _, h => by simp [eeqL] at h
  | _ :: _, [], h => by simp [eeqL] at h
  | e :: l, f :: r, h => by
    simp only [eeqL, Bool.and_eq_true, decide_eq_true_eq] at h
    obtain ⟨⟨⟨h1, h2⟩, h3⟩, h4⟩ := h
    rw [eeqL_spec h4]
    congr 1
    cases e; cases f
    simp only at h1 h2 h3
    rw [(veq_spec _).1 _ _ h1, (veq_spec _).1 _ _ h2, h3]
def aeq : AObj → AObj → Bool
  | .dead, .dead => true
  | .cells a e o, .cells b f p => veqL 10000 a b && decide (e = f) && decide (o = p)
  | .obj (.map es c), .obj (.map fs d) => eeqL es.toList fs.toList && decide (c = d)
  | .ro a, .ro b => veqL 10000 a b
  | _, _ => false
theorem aeq_spec {x y : AObj} (h : aeq x y = true) : x = y := by
  unfold aeq at h
  split at h
  · rfl
  · simp only [Bool.and_eq_true, decide_eq_true_eq] at h
    rw [(veq_spec _).2 _ _ h.1.1, h.1.2, h.2]
  · simp only [Bool.and_eq_true, decide_eq_true_eq] at h
    rw [Array.ext' (eeqL_spec h.1), h.2]
  · rw [(veq_spec _).2 _ _ h]
  · simp at h

/-! ### The evaluation of a region that draws -/
def restrict (H : Tr) : List Nat → Tr
  | [] => .nil
  | b :: l => if b < most then Tr.set depth (restrict H l) b (H.get b) else restrict H l
theorem restrict_get (H : Tr) : ∀ (B : List Nat) (m : Nat), (restrict H B).get m = .dead ∨ (m ∈ B ∧ (restrict H B).get m = H.get m)
  | [], m => .inl rfl
  | b :: l, m => by
    unfold restrict
    split
    · rename_i hb
      rw [get_set hb]
      split
      · rename_i e; rw [e]; exact .inr ⟨List.mem_cons_self, rfl⟩
      · exact (restrict_get H l m).imp id fun h => ⟨List.mem_cons_of_mem _ h.1, h.2⟩
    · exact (restrict_get H l m).imp id fun h => ⟨List.mem_cons_of_mem _ h.1, h.2⟩
def keepsB (Hq H : Tr) (B : List Nat) : Bool := B.all fun b => aeq (Hq.get b) (H.get b)

/-- Which blocks an operation reads. -/
def readsOf (ρ : Operand → Value) : Op → List Nat
  | .load _ x => match ρ x with
    | .pointer (some a) => [a.block]
    | _ => []
  | .lookup _ x _ _ => match ρ x with
    | .map (some r) => [r]
    | _ => []
  | .convert _ _ x => match ρ x with
    | .slice (some a) _ _ => [a.block]
    | _ => []
  | .slice _ x _ _ _ => match ρ x with
    | .slice (some a) _ c => if c < 2 ^ 70 then [] else [a.block]
    | _ => []
  | .call c => match c.callee, c.args.toList.map ρ with
    | .builtin .len, [.map (some r)] => [r]
    | _, _ => []
  | _ => []
/-- A first way through the region, calls left out: which blocks are read. (A guess: nothing hangs on its being right.) -/
def guessB (P : Program) (n0 : Nat) (all : Array Oper) : List Oper → St → List Nat → List Nat
  | [], _, B => B
  | o :: rest, s, B =>
    if Region.wanted o (yieldC all s) then
      match evQ P n0 s.H s.ev o with
      | some v => guessB P n0 all rest (s.put o.dst v) ((readsOf s.ev o.op).filter (fun b => !B.contains b) ++ B)
      | none => guessB P n0 all rest (s.put o.dst undef) B
    else guessB P n0 all rest (s.put o.dst undef) B
/-- An operation with its number, the numbers for which it waits outright (dm), and at all (am). -/
structure Ent where
  i : Nat
  o : Oper
  dm : Nat
  am : Nat
def dmOf : List Edge → Nat
  | [] => 0
  | e :: l => match Region.binds .any e with
    | true => Nat.lor (2 ^ e.on) (dmOf l)
    | false => dmOf l
def amOf (acc : List Nat) : List Edge → Nat
  | [] => 0
  | e :: l => match Region.binds .any e with
    | true => Nat.lor (Nat.lor (2 ^ e.on) (acc.getD e.on 0)) (amOf acc l)
    | false => amOf acc l
def entsOf : Nat → List Nat → List Oper → List Ent
  | _, _, [] => []
  | i, acc, o :: r => ⟨i, o, dmOf o.after.toList, amOf acc o.after.toList⟩ :: entsOf (i + 1) (acc ++ [amOf acc o.after.toList]) r
/-- From which operation on each waits for all below. -/
def mustM (lo : Nat) : List Ent → Nat
  | [] => 0
  | e :: l => match Nat.ble (e.i + 1) lo && !pureOp e.o with
    | true => Nat.lor (2 ^ e.i) (mustM lo l)
    | false => mustM lo l
def lateOk (es : List Ent) (lo : Nat) : Bool := es.all fun e => Nat.ble (e.i + 1) lo || Nat.beq (Nat.land e.am (mustM lo es)) (mustM lo es)
def lateFrom (es : List Ent) : Nat → Nat
  | 0 => 0
  | k + 1 => match lateOk es k with
    | true => lateFrom es k
    | false => k + 1
/-- Two operations are apart, or one waits for the other. -/
def apartOk (ops : Array Oper) (es : List Ent) : Bool :=
  es.all fun e => es.all fun f => Nat.beq e.i f.i || Nat.testBit f.am e.i || Nat.testBit e.am f.i || e.o.apart ops f.o

def rdy (M : Nat) (e : Ent) : Bool := Nat.beq (Nat.land e.dm M) e.dm
/-- What is taken first, if it may be. -/
def takeQ (P : Program) (n0 : Nat) (Hq : Tr) (ops : Array Oper) (lo : Nat) (M : Nat) (s : St) (e : Ent) : Option Value :=
  if (Nat.ble (e.i + 1) lo || pureOp e.o) && rdy M e then
    if Region.wanted e.o (yieldC ops s) then
      evQ P n0 Hq s.ev e.o
    else some undef
  else none
def passQ (P : Program) (n0 : Nat) (Hq : Tr) (ops : Array Oper) (lo : Nat) : List Ent → Nat → St → List Ent → Nat × St × List Ent
  | [], M, s, rest => (M, s, rest)
  | e :: l, M, s, rest => match takeQ P n0 Hq ops lo M s e with
    | some v => passQ P n0 Hq ops lo l (Nat.lor M (2 ^ e.i)) (s.put e.o.dst v) rest
    | none => passQ P n0 Hq ops lo l M s (rest ++ [e])
def evDraw (P : Program) (n0 : Nat) (call : Caller) (ops : Array Oper) (lo : Nat) (Hq : Tr) (B : List Nat) : Nat → Nat → List Ent → St → Option (List St)
  | 0, _, _, _ => none
  | k + 1, M, pend, s => match passQ P n0 Hq ops lo pend M s [] with
    | (M', s', rest) => match rest with
      | [] => some [s']
      | _ :: _ => match rest.filter (rdy M') with
        | [] => none
        | r0 :: rs => bindL (fun e => match stepOp P n0 call ops e.o s' with
          | none => none
          | some ss => bindL (fun s2 => if Nat.ble lo e.i || keepsB Hq s2.H B then evDraw P n0 call ops lo Hq B k (Nat.lor M' (2 ^ e.i)) (rest.filter fun x => !Nat.beq x.i e.i) s2 else none) ss) (r0 :: rs)
def merged (lo : Nat) : Option (List St) → Option (List St)
  | some (s :: t :: l) => some (mergeL lo (s :: t :: l))
  | o => o
def evRegion (P : Program) (n0 : Nat) (call : Caller) (ops : Array Oper) (s : St) : Option (List St) :=
  if lateOk (entsOf 0 [] ops.toList) (lateFrom (entsOf 0 [] ops.toList) ops.size) && Region.noSelect ops && apartOk ops (entsOf 0 [] ops.toList) && opsOk n0 ops then
    merged s.n (evDraw P n0 call ops (lateFrom (entsOf 0 [] ops.toList) ops.size) (restrict s.H (guessB P n0 ops (ops.toList.take (lateFrom (entsOf 0 [] ops.toList) ops.size)) s []))
      (guessB P n0 ops (ops.toList.take (lateFrom (entsOf 0 [] ops.toList) ops.size)) s []) (ops.size + 1) 0 (entsOf 0 [] ops.toList) s)
  else none

section
variable {P : Program} {n0 : Nat} {w0 : World} {call : Caller} {ops : Array Oper} {lo : Nat} {Hq : Tr} {B : List Nat} {n1 : Nat} {η1 : Env}


/-! ### The numbers as bits -/
theorem lor_bit (a b i : Nat) : Nat.testBit (Nat.lor a b) i = (Nat.testBit a i || Nat.testBit b i) := Nat.testBit_or a b i
theorem land_bit (a b i : Nat) : Nat.testBit (Nat.land a b) i = (Nat.testBit a i && Nat.testBit b i) := Nat.testBit_and a b i
theorem dmOf_bit : ∀ (es : List Edge) (b : Nat), Nat.testBit (dmOf es) b = true ↔ ∃ e ∈ es, Region.binds .any e = true ∧ e.on = b
  | [], b => by simp [dmOf]
  | e :: l, b => by
    unfold dmOf
    cases hb : Region.binds .any e with
    | true =>
      simp only [lor_bit, Nat.testBit_two_pow, Bool.or_eq_true, decide_eq_true_eq, dmOf_bit l b, List.mem_cons]
      constructor
      · rintro (h | ⟨e', h1, h2⟩)
        · exact ⟨e, .inl rfl, hb, h⟩
        · exact ⟨e', .inr h1, h2⟩
      · rintro ⟨e', rfl | h1, h2, h3⟩
        · exact .inl h3
        · exact .inr ⟨e', h1, h2, h3⟩
    | false =>
      simp only [dmOf_bit l b, List.mem_cons]
      constructor
      · rintro ⟨e', h1, h2⟩; exact ⟨e', .inr h1, h2⟩
      · rintro ⟨e', rfl | h1, h2, h3⟩
        · rw [hb] at h2; cases h2
        · exact ⟨e', h1, h2, h3⟩
theorem amOf_bit (acc : List Nat) : ∀ (es : List Edge) (b : Nat), Nat.testBit (amOf acc es) b = true → ∃ e ∈ es, Region.binds .any e = true ∧ (e.on = b ∨ Nat.testBit (acc.getD e.on 0) b = true)
  | [], b, h => by simp [amOf] at h
  | e :: l, b, h => by
    unfold amOf at h
    cases hb : Region.binds .any e with
    | true =>
      rw [hb] at h
      simp only [lor_bit, Nat.testBit_two_pow, Bool.or_eq_true, decide_eq_true_eq] at h
      rcases h with (h | h) | h
      · exact ⟨e, List.mem_cons_self, hb, .inl h⟩
      · exact ⟨e, List.mem_cons_self, hb, .inr h⟩
      · obtain ⟨e', h1, h2⟩ := amOf_bit acc l b h
        exact ⟨e', List.mem_cons_of_mem _ h1, h2⟩
    | false =>
      rw [hb] at h
      obtain ⟨e', h1, h2⟩ := amOf_bit acc l b h
      exact ⟨e', List.mem_cons_of_mem _ h1, h2⟩
def EntOk (ops : Array Oper) (e : Ent) : Prop := ops[e.i]? = some e.o ∧ e.dm = dmOf e.o.after.toList ∧ ∀ b, Nat.testBit e.am b = true → Anc ops e.i b
theorem entsOf_spec {ops : Array Oper} : ∀ (r : List Oper) (i : Nat) (acc : List Nat), acc.length = i → r = ops.toList.drop i → (∀ m, m < i → ∀ b, Nat.testBit (acc.getD m 0) b = true → Anc ops m b) →
    (∀ e ∈ entsOf i acc r, EntOk ops e ∧ i ≤ e.i) ∧ (∀ m, i ≤ m → m < ops.size → ∃ e ∈ entsOf i acc r, e.i = m) ∧ (entsOf i acc r).Pairwise (fun a b => a.i ≠ b.i)
  | [], i, acc, hl, hr, ha => by
    refine ⟨fun e he => by simp [entsOf] at he, fun m h1 h2 => ?_, List.Pairwise.nil⟩
    have := congrArg List.length hr
    simp at this
    omega
  | o :: r, i, acc, hl, hr, ha => by
    have hi : ops[i]? = some o := by
      have : (ops.toList.drop i)[0]? = some o := by rw [← hr]; rfl
      simpa using this
    have hr' : r = ops.toList.drop (i + 1) := by
      have := congrArg List.tail hr
      simpa using this
    have ham : ∀ b, Nat.testBit (amOf acc o.after.toList) b = true → Anc ops i b := fun b hb => by
      obtain ⟨e, h1, h2, h3⟩ := amOf_bit acc _ b hb
      have he : e ∈ o.after := by simpa using h1
      rcases h3 with rfl | h3
      · exact .direct hi he h2
      · rcases Nat.lt_or_ge e.on i with h' | h'
        · exact .trans hi he h2 (ha _ h' b h3)
        · rw [List.getD_eq_getElem?_getD, List.getElem?_eq_none (by omega)] at h3
          simp at h3
    obtain ⟨g1, g2, g3⟩ := entsOf_spec r (i + 1) (acc ++ [amOf acc o.after.toList]) (by simp [hl]) hr' (fun m hm b hb => by
      rcases Nat.lt_or_ge m i with h' | h'
      · rw [List.getD_eq_getElem?_getD, List.getElem?_append_left (by omega), ← List.getD_eq_getElem?_getD] at hb
        exact ha m h' b hb
      · have : m = i := by omega
        subst this
        rw [List.getD_eq_getElem?_getD, List.getElem?_append_right (by omega), hl, Nat.sub_self] at hb
        exact ham b hb)
    refine ⟨fun e he => ?_, fun m h1 h2 => ?_, ?_⟩
    · rcases List.mem_cons.1 he with rfl | he
      · exact ⟨⟨hi, rfl, ham⟩, Nat.le_refl _⟩
      · exact ⟨(g1 e he).1, by have := (g1 e he).2; omega⟩
    · by_cases hm : m = i
      · exact ⟨_, List.mem_cons_self, hm.symm⟩
      · obtain ⟨e, h3, h4⟩ := g2 m (by omega) h2
        exact ⟨e, List.mem_cons_of_mem _ h3, h4⟩
    · refine List.Pairwise.cons (fun e he => ?_) g3
      have := (g1 e he).2
      show i ≠ e.i
      omega

/-- The bits say what is listed, the entries what is not. -/
structure Rel (ops : Array Oper) (L : Array Bool) (M : Nat) (pend : List Ent) : Prop where
  size : L.size = ops.size
  bit : ∀ i, L.getD i false = Nat.testBit M i
  all : ∀ i, i < ops.size → Nat.testBit M i = false → ∃ e ∈ pend, e.i = i
  ok : ∀ e ∈ pend, EntOk ops e ∧ Nat.testBit M e.i = false
  one : pend.Pairwise (fun a b => a.i ≠ b.i)
  down : Down ops L
section
variable {ops : Array Oper} {L : Array Bool} {M : Nat} {pend : List Ent}
theorem Rel.lt (h : Rel ops L M pend) {e : Ent} (he : e ∈ pend) : e.i < ops.size := (Array.getElem?_eq_some_iff.1 (h.ok e he).1.1).1
theorem Rel.getT (h : Rel ops L M pend) {i : Nat} (hi : i < ops.size) : L.getD i true = Nat.testBit M i := by
  rw [← h.bit i]
  simp [h.size, hi]
theorem Rel.rdy (h : Rel ops L M pend) {e : Ent} (he : e ∈ pend) : rdy M e = true ↔ e.i ∈ Region.ready .any ops L := by
  obtain ⟨⟨h1, h2, h3⟩, h4⟩ := h.ok e he
  constructor
  · intro hr
    have hr' : Nat.land e.dm M = e.dm := Nat.eq_of_beq_eq_true hr
    refine mem_ready.2 ⟨by rw [h.getT (h.lt he), h4], e.o, h1, fun d hd hb => ?_⟩
    rw [h.bit]
    have hbit : Nat.testBit e.dm d.on = true := by rw [h2]; exact (dmOf_bit _ _).2 ⟨d, by simpa using hd, hb, rfl⟩
    rw [← hr', land_bit, Bool.and_eq_true] at hbit
    exact hbit.2
  · intro hr
    obtain ⟨-, o, ho, hall⟩ := mem_ready.1 hr
    rw [h1] at ho
    simp only [Option.some.injEq] at ho; subst ho
    have : Nat.land e.dm M = e.dm := by
      apply Nat.eq_of_testBit_eq
      intro b
      rw [land_bit]
      cases hb : Nat.testBit e.dm b with
      | false => rfl
      | true =>
        rw [h2] at hb
        obtain ⟨d, d1, d2, d3⟩ := (dmOf_bit _ _).1 hb
        have := hall d (by simpa using d1) d2
        rw [h.bit, d3] at this
        rw [this]; rfl
    unfold Ev.rdy
    rw [this]; exact Nat.beq_refl _
theorem Rel.pends (h : Rel ops L M pend) {j : Nat} (hj : j ∈ Region.ready .any ops L) : ∃ e ∈ pend, e.i = j ∧ Ev.rdy M e = true := by
  obtain ⟨h1, o, ho, -⟩ := mem_ready.1 hj
  have hlt := (Array.getElem?_eq_some_iff.1 ho).1
  rw [h.getT hlt] at h1
  obtain ⟨e, he, rfl⟩ := h.all j hlt h1
  exact ⟨e, he, rfl, (h.rdy he).2 hj⟩
theorem Rel.put (h : Rel ops L M pend) {e : Ent} (he : e ∈ pend) (hr : e.i ∈ Region.ready .any ops L) {pend' : List Ent} (hsub : pend'.Sublist pend) (hall : ∀ f ∈ pend, f.i ≠ e.i → f ∈ pend') (hno : ∀ f ∈ pend', f.i ≠ e.i) :
    Rel ops (L.setIfInBounds e.i true) (Nat.lor M (2 ^ e.i)) pend' := by
  have hlt := h.lt he
  refine ⟨by simp [h.size], fun i => ?_, fun i hi hb => ?_, fun f hf => ?_, h.one.sublist hsub, h.down.set hr⟩
  · rw [lor_bit, Nat.testBit_two_pow]
    by_cases hei : e.i = i
    · subst hei
      simp [h.size, hlt]
    · rw [getD_set_ne false hei, h.bit]; simp [hei]
  · rw [lor_bit, Nat.testBit_two_pow, Bool.or_eq_false_iff, decide_eq_false_iff_not] at hb
    obtain ⟨f, hf, rfl⟩ := h.all i hi hb.1
    exact ⟨f, hall f hf (fun e' => hb.2 e'.symm), rfl⟩
  · obtain ⟨g1, g2⟩ := h.ok f (hsub.subset hf)
    refine ⟨g1, ?_⟩
    rw [lor_bit, Nat.testBit_two_pow, g2]
    have := hno f hf
    simp [Ne.symm this]
end
end

section
variable {P : Program} {n0 : Nat} {w0 : World} {call : Caller} {ops : Array Oper} {lo : Nat} {Hq : Tr} {B : List Nat} {n1 : Nat} {η1 : Env}

theorem Inq.lift {n : Nat} {η : Env} {w : World} (h : Inq P n0 Hq n1 η1 w) (ha : Agree n1 η1 η) (hn : n1 ≤ n) : Inq P n0 Hq n η w := by
  refine ⟨Nat.le_trans h.n0n hn, fun i hi => ?_, fun i hi => ?_, fun i hi => h.beyond i (by omega)⟩
  · rw [(ha i (Nat.lt_of_lt_of_le hi h.n0n)).1]; exact h.fix i hi
  · rcases Nat.lt_or_ge i n1 with h' | h'
    · exact (h.at' i h').agree ha h' hn
    · rw [h.beyond i h']; trivial
theorem keepsB_spec {H' : Tr} (h : keepsB Hq H' B = true) {b : Nat} (hb : b ∈ B) : Hq.get b = H'.get b := by
  simp only [keepsB, List.all_eq_true] at h
  exact aeq_spec (h b hb)
/-- What is kept of memory is known behind an operation that has not turned it. -/
theorem Inq.back {H' : Tr} {n' : Nat} {η' : Env} {w w' : World} (h : Inq P n0 Hq n1 η1 w) (hB : ∀ m, Hq.get m = .dead ∨ m ∈ B) (hk : keepsB Hq H' B = true) (h' : Inv P n0 w0 H' n' η' w') (ha : Agree n1 η1 η') (hn : n1 ≤ n') :
    Inq P n0 Hq n1 η1 w' := by
  refine ⟨h.n0n, h.fix, fun i hi => ?_, h.beyond⟩
  rcases hB i with hd | hm
  · rw [hd]; trivial
  · have hold := h.at' i hi
    have hnew := h'.at' i (by omega)
    rw [← keepsB_spec hk hm] at hnew
    cases hx : Hq.get i with
    | dead => trivial
    | cells cs e op =>
      rw [hx] at hold hnew
      obtain ⟨hw, -⟩ := hold
      obtain ⟨-, ex, fz, g1, g2, g3, g4⟩ := hnew
      rw [(ha i hi).1, hw.map ha] at g1
      rw [(ha i hi).2] at g4
      exact ⟨hw, ex, fz, g1, g2, g3, g4⟩
    | ro cs =>
      rw [hx] at hold hnew
      obtain ⟨hw, -⟩ := hold
      obtain ⟨-, g⟩ := hnew
      exact ⟨hw, fun j v hv => by rw [← (ha i hi).1, g j v hv, hw v (List.mem_of_getElem? hv) _ _ ha]⟩
    | obj o =>
      rw [hx] at hold hnew
      obtain ⟨hw, hn', -⟩ := hold
      obtain ⟨-, -, g⟩ := hnew
      rw [(ha i hi).1, hw _ _ ha] at g
      exact ⟨hw, hn', g⟩

theorem takeQ_spec {M : Nat} {s : St} {e : Ent} {v : Value} (h : takeQ P n0 Hq ops lo M s e = some v) : (e.i < lo ∨ pureOp e.o = true) ∧ rdy M e = true ∧
    ((Region.wanted e.o (yieldC ops s) = true ∧ evQ P n0 Hq s.ev e.o = some v) ∨ (Region.wanted e.o (yieldC ops s) = false ∧ v = undef)) := by
  unfold takeQ at h
  split at h
  case isFalse => simp at h
  rename_i hc
  simp only [Bool.and_eq_true, Bool.or_eq_true] at hc
  refine ⟨hc.1.imp (fun h => Nat.lt_of_succ_le (Nat.le_of_ble_eq_true h)) id, hc.2, ?_⟩
  split at h
  · rename_i hw
    exact .inl ⟨hw, h⟩
  · rename_i hw
    simp only [Option.some.injEq] at h
    exact .inr ⟨by simpa using hw, h.symm⟩
theorem apartOk_spec {es : List Ent} (h : apartOk ops es = true) (hok : ∀ e ∈ es, EntOk ops e) (hall : ∀ i, i < ops.size → ∃ e ∈ es, e.i = i) {e : Ent} (he : e ∈ es) (j : Nat) (oj : Oper) (hj : ops[j]? = some oj) (hne : j ≠ e.i) :
    e.o.apart ops oj = true ∨ Anc ops j e.i ∨ Anc ops e.i j := by
  obtain ⟨f, hf, rfl⟩ := hall j (Array.getElem?_eq_some_iff.1 hj).1
  simp only [apartOk, List.all_eq_true] at h
  have h1 := h e he f hf
  simp only [Bool.or_eq_true] at h1
  obtain ⟨f1, -, f3⟩ := hok f hf
  rw [hj] at f1
  simp only [Option.some.injEq] at f1; subst f1
  rcases h1 with ((h1 | h1) | h1) | h1
  · exact absurd (Nat.eq_of_beq_eq_true h1).symm hne
  · exact .inr (.inl (f3 _ h1))
  · exact .inr (.inr ((hok e he).2.2 _ h1))
  · exact .inl h1
theorem mustM_bit {i : Nat} (hi : i < lo) : ∀ {es : List Ent}, (∃ e ∈ es, e.i = i ∧ pureOp e.o = false) → Nat.testBit (mustM lo es) i = true
  | [], h => by obtain ⟨e, he, -⟩ := h; cases he
  | f :: l, h => by
    obtain ⟨e, he, rfl, hp⟩ := h
    unfold mustM
    rcases List.mem_cons.1 he with rfl | he
    · have : (Nat.ble (e.i + 1) lo && !pureOp e.o) = true := by rw [hp, Nat.ble_eq_true_of_le (by omega)]; rfl
      rw [this]
      simp [lor_bit, Nat.testBit_two_pow]
    · have ih := mustM_bit hi ⟨e, he, rfl, hp⟩
      split
      · rw [lor_bit, ih, Bool.or_true]
      · exact ih
theorem lateOk_spec {es : List Ent} (h : lateOk es lo = true) (hok : ∀ e ∈ es, EntOk ops e) (hall : ∀ i, i < ops.size → ∃ e ∈ es, e.i = i) {i j : Nat} (hj : lo ≤ j) (hjs : j < ops.size) (hi : i < lo) (hp : ∀ o, ops[i]? = some o → pureOp o = false) : Anc ops j i := by
  obtain ⟨f, hf, rfl⟩ := hall j hjs
  simp only [lateOk, List.all_eq_true] at h
  have h1 := h f hf
  rw [Bool.or_eq_true] at h1
  rcases h1 with h1 | h1
  · have := Nat.le_of_ble_eq_true h1; omega
  · have h2 : Nat.land f.am (mustM lo es) = mustM lo es := Nat.eq_of_beq_eq_true h1
    refine (hok f hf).2.2 i ?_
    obtain ⟨g, hg, hgi⟩ := hall i (by omega)
    have h3 : Nat.testBit (mustM lo es) i = true := mustM_bit hi ⟨g, hg, hgi, hp _ (by rw [← hgi]; exact (hok g hg).1)⟩
    rw [← h2, land_bit, Bool.and_eq_true] at h3
    exact h3.1

theorem evQ_pure {ρ : Operand → Value} {o : Oper} (hp : pureOp o = true) (H H' : Tr) : evQ P n0 H ρ o = evQ P n0 H' ρ o := by
  unfold pureOp at hp
  split at hp
  · rename_i x h
    simp only [evQ, h, evVal]
  · rename_i x y h
    simp only [evQ, h, evVal]
  · simp at hp
theorem Inq.nothing {n : Nat} {η : Env} {W : World} (h : n0 ≤ n) (hf : Fix n0 η) : Inq P n0 .nil n η W := ⟨h, hf, fun i _ => trivial, fun i _ => rfl⟩
/-- Taking what only reads: from what holds behind it to what holds ahead of it. -/
theorem passQ_sound (hopk : ∀ e, EntOk ops e → ∀ x ∈ e.o.op.operands, okOp n0 x = true) (hap : ∀ e, EntOk ops e → ∀ j oj, ops[j]? = some oj → j ≠ e.i → e.o.apart ops oj = true ∨ Anc ops j e.i ∨ Anc ops e.i j) (hlate : ∀ i j, lo ≤ j → j < ops.size → i < lo → (∀ o, ops[i]? = some o → pureOp o = false) → Anc ops j i)
    (hsel : Region.noSelect ops = true) {Q : Exit → Act → World → Prop} (hQp : ∀ c a b w, Q (.panic c) a w → Q (.panic c) b w) {H : Tr} {n : Nat} {η : Env} {W : World} (hI : Inv P n0 w0 H n η W) (ha : Agree n1 η1 η) (hn : n1 ≤ n) :
    ∀ (l : List Ent) (M : Nat) (s : St) (rest : List Ent) (L : Array Bool) (a : Act) (k : Nat), s.H = H → s.n = n → Fr η s a → Rel ops L M (rest ++ l) → (rest ++ l).length ≤ k →
      (Inq P n0 Hq n1 η1 W ∨ ∀ i, i < lo → (∀ o, ops[i]? = some o → pureOp o = false) → L.getD i false = true) →
      ∀ (M' : Nat) (s' : St) (rest' : List Ent), passQ P n0 Hq ops lo l M s rest = (M', s', rest') →
      (∀ L' a' k', s'.H = H → s'.n = n → Fr η s' a' → Rel ops L' M' rest' → rest'.length ≤ k' → (Inq P n0 Hq n1 η1 W ∨ ∀ i, i < lo → (∀ o, ops[i]? = some o → pureOp o = false) → L'.getD i false = true) → anyL P ops Q (fun w => Inq P n0 Hq n1 η1 w) lo k' L' a' W) →
      anyL P ops Q (fun w => Inq P n0 Hq n1 η1 w) lo k L a W
  | [], M, s, rest, L, a, k, hH, hN, hF, hR, hk, hS, M', s', rest', he, K => by
    simp only [passQ, Prod.mk.injEq] at he
    obtain ⟨rfl, rfl, rfl⟩ := he
    rw [List.append_nil] at hR hk
    exact K L a k hH hN hF hR hk hS
  | e :: l, M, s, rest, L, a, k, hH, hN, hF, hR, hk, hS, M', s', rest', he, K => by
    unfold passQ at he
    have hmem : e ∈ rest ++ e :: l := List.mem_append_right _ List.mem_cons_self
    split at he
    · rename_i v hv
      obtain ⟨t1, t2, t3⟩ := takeQ_spec hv
      have hr := (hR.rdy hmem).1 t2
      obtain ⟨ok1, -⟩ := hR.ok e hmem
      have hfix := hI.fix
      have hn0 : n0 ≤ s.n := by rw [hN]; exact hI.n0n
      have hlen : 0 < k := by simp at hk; omega
      obtain ⟨k', rfl⟩ : ∃ k', k = k' + 1 := ⟨k - 1, by omega⟩
      have g2 : ∀ x ∈ e.o.op.operands, okOp n0 x = true := hopk e ok1
      cases hpure : pureOp e.o with
      | true =>
        have hy : YieldsIf P ops (fun _ => True) e.o (rV η v) a ∧ Wf s.n v := by
          rcases t3 with ⟨g1, g3⟩ | ⟨g1, rfl⟩
          · rw [evQ_pure hpure Hq .nil] at g3
            refine ⟨.inl ⟨by rw [hF.yielded ops]; exact g1, fun w hw => ?_⟩, ?_⟩
            · exact (evQ_sound (Inq.nothing hn0 hfix) (hF.good hfix hn0) g2 g3).2
            · exact (evQ_sound (W := W) (Inq.nothing hn0 hfix) (hF.good hfix hn0) g2 g3).1
          · exact ⟨.inr ⟨by rw [hF.yielded ops]; exact g1, by simp⟩, Wf.undef _⟩
        refine anyL_firstP ok1.1 hsel (hap e ok1) (fun c a w h => hQp c _ _ w h) k' L a W hr hR.down hy.1 ?_
        refine passQ_sound hopk hap hlate hsel hQp hI ha hn l _ (s.put e.o.dst v) rest (L.setIfInBounds e.i true) _ k' (by simpa using hH) (by simpa using hN) (hF.put hy.2) ?_ ?_ (hS.imp id fun h i hi hp => getD_set_true (h i hi hp)) M' s' rest' he K
        · refine hR.put hmem hr (List.Sublist.append (List.Sublist.refl _) (List.sublist_cons_self _ _)) (fun f hf hfe => ?_) (fun f hf => ?_)
          · rcases List.mem_append.1 hf with hf | hf
            · exact List.mem_append_left _ hf
            · rcases List.mem_cons.1 hf with rfl | hf
              · exact absurd rfl hfe
              · exact List.mem_append_right _ hf
          · have hp := List.pairwise_append.1 hR.one
            rcases List.mem_append.1 hf with hf | hf
            · exact hp.2.2 f hf e List.mem_cons_self
            · exact ((List.pairwise_cons.1 hp.2.1).1 f hf).symm
        · simp at hk ⊢; omega
      | false =>
        have t1 : e.i < lo := t1.resolve_right (by rw [hpure]; decide)
        have hpf : ∀ o, ops[e.i]? = some o → pureOp o = false := fun o ho => by
          rw [ok1.1] at ho
          simp only [Option.some.injEq] at ho; subst ho
          exact hpure
        have hSw : Inq P n0 Hq n1 η1 W := hS.resolve_right fun hall => unlisted_ne (mem_ready.1 hr).1 (hall e.i t1 hpf)
        have hy : YieldsIf P ops (fun w => Inq P n0 Hq n1 η1 w) e.o (rV η v) a ∧ Wf s.n v := by
          rcases t3 with ⟨g1, g3⟩ | ⟨g1, rfl⟩
          · refine ⟨.inl ⟨by rw [hF.yielded ops]; exact g1, fun w hw => ?_⟩, ?_⟩
            · exact (evQ_sound (hw.lift ha (by rw [hN]; exact hn)) (hF.good hfix hn0) g2 g3).2
            · exact (evQ_sound (hSw.lift ha (by rw [hN]; exact hn)) (hF.good hfix hn0) g2 g3).1
          · exact ⟨.inr ⟨by rw [hF.yielded ops]; exact g1, by simp⟩, Wf.undef _⟩
        refine anyL_first ok1.1 (fun j h1 h2 => hlate e.i j h1 h2 t1 hpf) hsel (hap e ok1) (fun c a w h => hQp c _ _ w h) k' L a W hr hR.down hy.1 hSw ?_
        refine passQ_sound hopk hap hlate hsel hQp hI ha hn l _ (s.put e.o.dst v) rest (L.setIfInBounds e.i true) _ k' (by simpa using hH) (by simpa using hN) (hF.put hy.2) ?_ ?_ (.inl hSw) M' s' rest' he K
        · refine hR.put hmem hr (List.Sublist.append (List.Sublist.refl _) (List.sublist_cons_self _ _)) (fun f hf hfe => ?_) (fun f hf => ?_)
          · rcases List.mem_append.1 hf with hf | hf
            · exact List.mem_append_left _ hf
            · rcases List.mem_cons.1 hf with rfl | hf
              · exact absurd rfl hfe
              · exact List.mem_append_right _ hf
          · have hp := List.pairwise_append.1 hR.one
            rcases List.mem_append.1 hf with hf | hf
            · exact hp.2.2 f hf e List.mem_cons_self
            · exact ((List.pairwise_cons.1 hp.2.1).1 f hf).symm
        · simp at hk ⊢; omega
    · refine passQ_sound hopk hap hlate hsel hQp hI ha hn l M s (rest ++ [e]) L a k hH hN hF ?_ ?_ hS M' s' rest' he K
      · rw [List.append_assoc]; exact hR
      · simp at hk ⊢; omega

theorem evDraw_sound (hc : CallOk P n0 w0 call) (hops : opsOk n0 ops = true) (hap : ∀ e, EntOk ops e → ∀ j oj, ops[j]? = some oj → j ≠ e.i → e.o.apart ops oj = true ∨ Anc ops j e.i ∨ Anc ops e.i j) (hlate : ∀ i j, lo ≤ j → j < ops.size → i < lo → (∀ o, ops[i]? = some o → pureOp o = false) → Anc ops j i)
    (hsel : Region.noSelect ops = true) (hB : ∀ m, Hq.get m = .dead ∨ m ∈ B) {Q : Exit → Act → World → Prop} (hQp : ∀ c a b w, Q (.panic c) a w → Q (.panic c) b w) :
    ∀ (f : Nat) (M : Nat) (pend : List Ent) (s : St) (ss : List St) (L : Array Bool) (η : Env) (a : Act) (W : World) (k : Nat), evDraw P n0 call ops lo Hq B f M pend s = some ss → Rel ops L M pend → pend.length ≤ k → Inv P n0 w0 s.H s.n η W → Fr η s a → Agree n1 η1 η → n1 ≤ s.n →
      (Inq P n0 Hq n1 η1 W ∨ ∀ i, i < lo → (∀ o, ops[i]? = some o → pureOp o = false) → L.getD i false = true) →
      (∀ s' ∈ ss, ∀ η' a' W', Agree s.n η η' → s.n ≤ s'.n → Inv P n0 w0 s'.H s'.n η' W' → Fr η' s' a' → Q .normal a' W') → anyL P ops Q (fun w => Inq P n0 Hq n1 η1 w) lo k L a W
  | 0, M, pend, s, ss, L, η, a, W, k, he, hR, hk, hI, hF, ha, hn, hS, hQ => by simp [evDraw] at he
  | f + 1, M, pend, s, ss, L, η, a, W, k, he, hR, hk, hI, hF, ha, hn, hS, hQ => by
    unfold evDraw at he
    cases hp : passQ P n0 Hq ops lo pend M s [] with
    | mk M' p2 =>
    obtain ⟨s', rest⟩ := p2
    rw [hp] at he
    dsimp only at he
    have hopk : ∀ e, EntOk ops e → ∀ x ∈ e.o.op.operands, okOp n0 x = true := fun e he => opOk_spec (by
      simp only [opsOk, List.all_eq_true] at hops
      exact hops e.o (by simpa using Array.mem_of_getElem? he.1))
    refine passQ_sound hopk hap hlate hsel hQp hI ha hn pend M s [] L a k rfl rfl hF (by simpa using hR) (by simpa using hk) hS M' s' rest hp fun L' a' k' hH' hN' hF' hR' hk' hS' => ?_
    have hI' : Inv P n0 w0 s'.H s'.n η W := by rw [hH', hN']; exact hI
    cases rest with
    | nil =>
      simp only [Option.some.injEq] at he; subst he
      have hnone : Region.ready .any ops L' = [] := by
        cases hr : Region.ready .any ops L' with
        | nil => rfl
        | cons j js =>
          obtain ⟨e, he', -⟩ := hR'.pends (j := j) (by rw [hr]; exact List.mem_cons_self)
          simp at he'
      have hdone : Q .normal a' W := hQ s' (List.mem_singleton_self _) η a' W (.refl _ _) (by rw [hN']; exact Nat.le_refl _) hI' hF'
      cases k' with
      | zero => exact ⟨hnone, hdone⟩
      | succ k' => exact ⟨fun _ => hdone, by rw [hnone]; simp⟩
    | cons e0 es0 =>
      dsimp only at he
      cases hfl : (e0 :: es0).filter (rdy M') with
      | nil => rw [hfl] at he; simp at he
      | cons r0 rs =>
        rw [hfl] at he
        dsimp only at he
        obtain ⟨k2, rfl⟩ : ∃ k2, k' = k2 + 1 := ⟨k' - 1, by simp at hk'; omega⟩
        refine ⟨fun h0 => ?_, fun j hj => ?_⟩
        · have : r0 ∈ (e0 :: es0).filter (rdy M') := by rw [hfl]; exact List.mem_cons_self
          obtain ⟨m1, m2⟩ := List.mem_filter.1 this
          have := (hR'.rdy m1).1 m2
          rw [h0] at this
          cases this
        · obtain ⟨e, he1, rfl, he2⟩ := hR'.pends hj
          have hef : e ∈ r0 :: rs := by rw [← hfl]; exact List.mem_filter.2 ⟨he1, he2⟩
          obtain ⟨u, hu, hsub⟩ := bindL_mem he e hef
          obtain ⟨⟨ho, ho2⟩, -⟩ := hR'.ok e he1
          have hop : opOk n0 e.o = true := by
            simp only [opsOk, List.all_eq_true] at hops
            exact hops e.o (by simpa using Array.mem_of_getElem? ho)
          cases hst : stepOp P n0 call ops e.o s' with
          | none => rw [hst] at hu; simp at hu
          | some s1 =>
            rw [hst] at hu
            dsimp only at hu
            unfold wpOp
            rw [ho]
            have hn' : n1 ≤ s'.n := by rw [hN']; exact hn
            refine stepOp_sound (all := ops) hc hI' hF' hop hst (Q := Q) (K := fun a' w' => (e.i < lo → Inq P n0 Hq n1 η1 W → Inq P n0 Hq n1 η1 w') ∧ anyL P ops Q (fun w => Inq P n0 Hq n1 η1 w) lo k2 (L'.setIfInBounds e.i true) a' w') ?_
            intro s2 hs2 η2 a2 W2 ha2 hn2 hI2 hF2
            obtain ⟨u2, hu2, hsub2⟩ := bindL_mem hu s2 hs2
            split at hu2
            case isFalse => simp at hu2
            rename_i hcond
            have ha3 : Agree n1 η1 η2 := ha.trans ha2 hn'
            have hSS : (e.i < lo → Inq P n0 Hq n1 η1 W → Inq P n0 Hq n1 η1 W2) ∧ (Inq P n0 Hq n1 η1 W2 ∨ ∀ i, i < lo → (∀ o, ops[i]? = some o → pureOp o = false) → (L'.setIfInBounds e.i true).getD i false = true) := by
              by_cases hjlo : e.i < lo
              · have hk : keepsB Hq s2.H B = true := by
                  rw [Bool.or_eq_true] at hcond
                  refine hcond.resolve_left fun h => ?_
                  have := Nat.le_of_ble_eq_true h
                  omega
                have hback : Inq P n0 Hq n1 η1 W → Inq P n0 Hq n1 η1 W2 := fun hSw => hSw.back hB hk hI2 ha3 (Nat.le_trans hn' hn2)
                exact ⟨fun _ => hback, hS'.imp hback fun h i hi hp => getD_set_true (h i hi hp)⟩
              · exact ⟨fun h => absurd h hjlo, .inr fun i hi hp => getD_set_true (ready_anc hR'.down hj (hlate i e.i (by omega) (hR'.lt he1) hi hp))⟩
            refine ⟨hSS.1, evDraw_sound hc hops hap hlate hsel hB hQp f _ _ s2 u2 (L'.setIfInBounds e.i true) η2 a2 W2 k2 hu2 ?_ ?_ hI2 hF2 ha3 (Nat.le_trans hn' hn2) hSS.2 fun s3 hs3 η3 a3 W3 ha4 hn4 hI3 hF3 => ?_⟩
            · refine hR'.put he1 hj List.filter_sublist (fun g hg hge => List.mem_filter.2 ⟨hg, ?_⟩) (fun g hg => ?_)
              · simp [beqF hge]
              · have := (List.mem_filter.1 hg).2
                intro hge
                rw [hge] at this
                simp at this
            · have : ((e0 :: es0).filter fun x => !Nat.beq x.i e.i).length < (e0 :: es0).length := by
                rw [List.length_filter_lt_length_iff_exists]
                exact ⟨e, he1, by simp⟩
              omega
            · refine hQ s3 (hsub s3 (hsub2 s3 hs3)) η3 a3 W3 ?_ ?_ hI3 hF3
              · have := ha2.trans ha4 hn2
                rwa [hN'] at this
              · have := Nat.le_trans hn2 hn4
                rwa [hN'] at this

theorem evRegion_sound (hm : P.follows .mixedOrders = true) (hc : CallOk P n0 w0 call) {Q : Exit → Act → World → Prop} (hQp : ∀ c a b w, Q (.panic c) a w → Q (.panic c) b w) {s : St} {ss : List St} {η : Env} {a : Act} {W : World} {id : Nat}
    (he : evRegion P n0 call ops s = some ss) (hI : Inv P n0 w0 s.H s.n η W) (hF : Fr η s a)
    (hQ : ∀ s' ∈ ss, ∀ η' a' W', Agree s.n η η' → s.n ≤ s'.n → Inv P n0 w0 s'.H s'.n η' W' → Fr η' s' a' → Q .normal a' W') : (Code.region id ops true).wp P Q a W := by
  unfold evRegion at he
  split at he
  case isFalse => simp at he
  rename_i hcond
  simp only [Bool.and_eq_true] at hcond
  obtain ⟨⟨⟨c1, c2⟩, c3⟩, c4⟩ := hcond
  have hn0s : n0 ≤ s.n := hI.n0n
  obtain ⟨g1, g2, g3⟩ := entsOf_spec (ops := ops) ops.toList 0 [] rfl (by simp) (fun m hm => by omega)
  have gok : ∀ e ∈ entsOf 0 [] ops.toList, EntOk ops e := fun e he => (g1 e he).1
  have gall : ∀ i, i < ops.size → ∃ e ∈ entsOf 0 [] ops.toList, e.i = i := fun i hi => g2 i (Nat.zero_le _) hi
  have hI' : Inv P n0 w0 s.H s.n η W.drew := hI.drew
  have hr := restrict_get s.H (guessB P n0 ops (ops.toList.take (lateFrom (entsOf 0 [] ops.toList) ops.size)) s [])
  have hS : Inq P n0 (restrict s.H (guessB P n0 ops (ops.toList.take (lateFrom (entsOf 0 [] ops.toList) ops.size)) s [])) s.n η W.drew := by
    refine ⟨hI.n0n, hI.fix, fun i hi => ?_, fun i hi => ?_⟩
    · rcases hr i with hd | ⟨-, hd⟩
      · rw [hd]; trivial
      · rw [hd]; exact hI'.at' i hi
    · rcases hr i with hd | ⟨-, hd⟩
      · exact hd
      · rw [hd]; exact hI.beyond i hi
  have hrel : Rel ops (Array.replicate ops.size false) 0 (entsOf 0 [] ops.toList) := by
    refine ⟨by simp, fun i => ?_, fun i hi _ => gall i hi, fun e he => ⟨gok e he, by simp⟩, g3, fun m o ho hm => ?_⟩
    · by_cases hi : i < ops.size
      · simp [hi]
      · simp [hi]
    · have hlt : m < ops.size := (Array.getElem?_eq_some_iff.1 ho).1
      simp [hlt] at hm
  have hlen : ∀ (r : List Oper) (i : Nat) (acc : List Nat), (entsOf i acc r).length = r.length := by
    intro r
    induction r with
    | nil => intro i acc; rfl
    | cons o r ih => intro i acc; simp [entsOf, ih]
  obtain ⟨ss0, he, hall⟩ : ∃ ss0, evDraw P n0 call ops (lateFrom (entsOf 0 [] ops.toList) ops.size) (restrict s.H (guessB P n0 ops (ops.toList.take (lateFrom (entsOf 0 [] ops.toList) ops.size)) s []))
      (guessB P n0 ops (ops.toList.take (lateFrom (entsOf 0 [] ops.toList) ops.size)) s []) (ops.size + 1) 0 (entsOf 0 [] ops.toList) s = some ss0 ∧
      ∀ s' ∈ ss0, ∀ η' a' W', Agree s.n η η' → s.n ≤ s'.n → Inv P n0 w0 s'.H s'.n η' W' → Fr η' s' a' → Q .normal a' W' := by
    generalize evDraw P n0 call ops (lateFrom (entsOf 0 [] ops.toList) ops.size) (restrict s.H (guessB P n0 ops (ops.toList.take (lateFrom (entsOf 0 [] ops.toList) ops.size)) s []))
      (guessB P n0 ops (ops.toList.take (lateFrom (entsOf 0 [] ops.toList) ops.size)) s []) (ops.size + 1) 0 (entsOf 0 [] ops.toList) s = r at he
    unfold merged at he
    split at he
    · rename_i u v l
      simp only [Option.some.injEq] at he; subst he
      refine ⟨_, rfl, mergeL_all (lo := s.n) (fun x y hxy hK η' a' W' ha hn hI hF => ?_) _ hQ⟩
      obtain ⟨η2, h1, h2, h3, h4⟩ := sameSt_ok hxy (by assumption) hI hF
      exact hK η2 a' W' (ha.trans h1 (Nat.le_refl _)) (by omega) h3 h4
    · exact ⟨ss, he, hQ⟩
  have key := evDraw_sound (w0 := w0) (n1 := s.n) (η1 := η) hc c4
    (fun e he j oj hj hne => by
      obtain ⟨f, hf, hfi⟩ := gall e.i (Array.getElem?_eq_some_iff.1 he.1).1
      have h1 := apartOk_spec c3 gok gall hf j oj hj (by rw [hfi]; exact hne)
      have h2 := (gok f hf).1
      rw [hfi, he.1] at h2
      simp only [Option.some.injEq] at h2
      rw [hfi] at h1
      rw [h2]
      exact h1)
    (fun i j h1 h2 h3 h4 => lateOk_spec c1 gok gall h1 h2 h3 h4) c2 (fun m => (hr m).imp (fun h => h) fun h => h.1) hQp _ _ _ s ss0 _ η a W.drew ops.size he hrel (by rw [hlen]; simp) hI' hF (.refl _ _) (Nat.le_refl _) (.inl hS) hall
  exact wp_region_any hm (anyL_any _ _ _ _ key)
end
end Go.Proofs.YtjcnpjidkimldaaGreatDoor.Ev
