/-
  A closed call evaluated piece by piece, forgetting what is of no account any more: what a piece of code comes to, as a statement that steps, rounds and branches are put together from.
-/
import Derived.Test.YtoanbjnhoggpjaaEvK
namespace Go.Proofs.Ytoanbjnhoggpjaa.Ev
set_option linter.unusedSimpArgs false
set_option linter.unusedVariables false
set_option maxRecDepth 100000
open Go Go.RowKit

/-- Which blocks stay. -/
inductive Mk where
  | no
  | node (b : Bool) (l r : Mk)
def prune : Mk → Tr → Tr
  | .node b l r, .node o l' r' => .node (match b with | true => o | false => .dead) (prune l l') (prune r r')
  | _, _ => .nil
theorem prune_get : ∀ (m : Mk) (t : Tr) (i : Nat), (prune m t).get i = t.get i ∨ (prune m t).get i = .dead
  | .no, t, i => .inr (by simp [prune, Tr.get])
  | .node b l r, .nil, i => .inr (by simp [prune, Tr.get])
  | .node b l r, .node o l' r', i => by
    simp only [prune, Tr.get]
    cases Nat.beq i 0 with
    | true => cases b <;> simp
    | false =>
      dsimp only
      cases Nat.beq (i % 2) 1 with
      | true => exact prune_get l l' _
      | false => exact prune_get r r' _

section
variable {P : Program} {n0 : Nat} {w0 : World} {H : Tr} {n : Nat} {η : Env} {W : World} {call : Caller} {F : Nat} {c : Code} {s s1 : St} {outs : List (X × St)} {x : X}

theorem Inv.forget (h : Inv P n0 w0 H n η W) {H' : Tr} (hH : ∀ i, H'.get i = H.get i ∨ H'.get i = .dead) : Inv P n0 w0 H' n η W := by
  refine InvT.to ⟨h.bel, h.n0n, h.old, h.fix, h.new, h.lt, ?_, ?_, ?_⟩
  · intro i j hi hj li lj e
    rcases hH i with e1 | e1
    · rcases hH j with e2 | e2
      · rw [e1] at li; rw [e2] at lj
        exact h.inj i j hi hj li lj e
      · rw [e2] at lj; exact lj.elim
    · rw [e1] at li; exact li.elim
  · intro i hi
    rcases hH i with e1 | e1
    · rw [e1]; exact h.at' i hi
    · rw [e1]; trivial
  · intro i hi
    rcases hH i with e1 | e1
    · rw [e1]; exact h.beyond i hi
    · exact e1

def St.forget (m : Mk) (s : St) : St := ⟨s.T, s.m, prune m s.H, s.n⟩
def forgets (m : Mk) (outs : List (X × St)) : List (X × St) := outs.map fun p => (p.1, p.2.forget m)

/-- What a piece of code comes to, from a state. -/
def Goes (P : Program) (n0 : Nat) (w0 : World) (c : Code) (s : St) (outs : List (X × St)) : Prop :=
  ∀ (η : Env) (a : Act) (W : World), Inv P n0 w0 s.H s.n η W → Fr η s a → c.wp P (Post P n0 w0 outs s.n η) a W
/-- The same of rounds. -/
def Turns (P : Program) (n0 : Nat) (w0 : World) (c : Code) (k : Nat) (s : St) (outs : List (X × St)) : Prop :=
  ∀ (η : Env) (a : Act) (W : World), Inv P n0 w0 s.H s.n η W → Fr η s a → Code.rounds P c (Post P n0 w0 outs s.n η) k a W

theorem Goes.ev (hm : P.follows .mixedOrders = true) (hc : CallOk P n0 w0 call) (m : Mk) (h : (evCode P n0 call F c s).map (forgets m) = some outs) : Goes P n0 w0 c s outs := by
  intro η a W hI hF
  cases h1 : evCode P n0 call F c s with
  | none => rw [h1] at h; simp at h
  | some o1 =>
    rw [h1] at h
    simp only [Option.map_some, Option.some.injEq] at h; subst h
    refine wp_mono (evCode_sound hm hc c s o1 η a W h1 hI hF) fun e a' W' hp => ?_
    obtain ⟨p, hp, η', ha, hn, hI', hF', rfl⟩ := hp
    exact ⟨(p.1, p.2.forget m), List.mem_map_of_mem (f := fun p : X × St => (p.1, p.2.forget m)) hp, η', ha, hn, hI'.forget (prune_get m _), ⟨hF'.1, hF'.2, hF'.3, hF'.4, hF'.5, hF'.6⟩, rfl⟩
theorem Goes.seq (hq : isSeq c = true) (h1 : Goes P n0 w0 (hd c) s [(.normal, s1)]) (h2 : Goes P n0 w0 (tl c) s1 outs) : Goes P n0 w0 c s outs := by
  cases c with
  | seq x y =>
    intro η a W hI hF
    refine wp_seq (wp_mono (h1 η a W hI hF) fun e a' W' hp => ?_)
    obtain ⟨p, hp, η', ha, hn, hI', hF', rfl⟩ := hp
    obtain rfl := List.mem_singleton.1 hp
    exact wp_mono (h2 η' a' W' hI' hF') fun e a W h => h.mono (fun _ h => h) ha hn
  | _ => simp [isSeq] at hq
def isNormal : X → Bool
  | .normal => true
  | _ => false
theorem Goes.seqX (hq : isSeq c = true) (hx : isNormal x = false) (h1 : Goes P n0 w0 (hd c) s [(x, s1)]) : Goes P n0 w0 c s [(x, s1)] := by
  cases c with
  | seq y z =>
    intro η a W hI hF
    refine wp_seq (wp_mono (h1 η a W hI hF) fun e a' W' hp => ?_)
    obtain ⟨p, hp, η', ha, hn, hI', hF', rfl⟩ := hp
    obtain rfl := List.mem_singleton.1 hp
    cases x with
    | normal => simp [isNormal] at hx
    | exit id => exact ⟨_, List.mem_singleton_self _, η', ha, hn, hI', hF', rfl⟩
    | ret => exact ⟨_, List.mem_singleton_self _, η', ha, hn, hI', hF', rfl⟩
  | _ => simp [isSeq] at hq
def inner : Code → Code
  | .block _ c => c
  | .loop c => c
  | .scope c => c
  | c => c
def isBlock (id : Nat) : Code → Bool
  | .block i _ => Nat.beq i id
  | _ => false
def isLoop : Code → Bool
  | .loop _ => true
  | _ => false
def leave (id : Nat) : X → X
  | .exit i => match Nat.beq i id with | true => .normal | false => .exit i
  | x => x
theorem Goes.block (id : Nat) (hq : isBlock id c = true) (h1 : Goes P n0 w0 (inner c) s [(x, s1)]) : Goes P n0 w0 c s [(leave id x, s1)] := by
  cases c with
  | block i b =>
    obtain rfl : i = id := Nat.eq_of_beq_eq_true hq
    intro η a W hI hF
    refine wp_block (wp_mono (h1 η a W hI hF) fun e a' W' hp => ?_)
    obtain ⟨p, hp, η', ha, hn, hI', hF', rfl⟩ := hp
    obtain rfl := List.mem_singleton.1 hp
    cases x with
    | normal => exact ⟨_, List.mem_singleton_self _, η', ha, hn, hI', hF', rfl⟩
    | ret => exact ⟨_, List.mem_singleton_self _, η', ha, hn, hI', hF', rfl⟩
    | exit j =>
      simp only [X.to, Exit.inBlock]
      split
      · rename_i e
        have hl : leave i (X.exit j) = .normal := by subst e; simp [leave]
        exact ⟨_, List.mem_singleton_self _, η', ha, hn, hI', hF', by rw [hl]; rfl⟩
      · rename_i e
        have hl : leave i (X.exit j) = .exit j := by simp [leave, beqF e]
        exact ⟨_, List.mem_singleton_self _, η', ha, hn, hI', hF', by rw [hl]; rfl⟩
  | _ => simp [isBlock] at hq
theorem Goes.loop {k : Nat} (hq : isLoop c = true) (h : Turns P n0 w0 (inner c) k s outs) : Goes P n0 w0 c s outs := by
  cases c with
  | loop b =>
    intro η a W hI hF
    exact wp_loop_rounds k (h η a W hI hF)
  | _ => simp [isLoop] at hq
theorem Turns.next {k : Nat} (h1 : Goes P n0 w0 c s [(.normal, s1)]) (h2 : Turns P n0 w0 c k s1 outs) : Turns P n0 w0 c (k + 1) s outs := by
  intro η a W hI hF
  rw [rounds_succ]
  refine wp_mono (h1 η a W hI hF) fun e a' W' hp => ?_
  obtain ⟨p, hp, η', ha, hn, hI', hF', rfl⟩ := hp
  obtain rfl := List.mem_singleton.1 hp
  exact rounds_mono k (fun e a W h => h.mono (fun _ h => h) ha hn) (h2 η' a' W' hI' hF')
theorem Turns.last {k : Nat} (hx : isNormal x = false) (h1 : Goes P n0 w0 c s [(x, s1)]) : Turns P n0 w0 c (k + 1) s [(x, s1)] := by
  intro η a W hI hF
  rw [rounds_succ]
  refine wp_mono (h1 η a W hI hF) fun e a' W' hp => ?_
  obtain ⟨p, hp, η', ha, hn, hI', hF', rfl⟩ := hp
  obtain rfl := List.mem_singleton.1 hp
  cases x with
  | normal => simp [isNormal] at hx
  | exit id => exact ⟨_, List.mem_singleton_self _, η', ha, hn, hI', hF', rfl⟩
  | ret => exact ⟨_, List.mem_singleton_self _, η', ha, hn, hI', hF', rfl⟩
def branch (n0 : Nat) (s : St) : Code → Option Bool
  | .cond o _ _ => match okOp n0 o with
    | true => match s.ev o with
      | .bool b => some b
      | _ => none
    | false => none
  | _ => none
def thn : Code → Code
  | .cond _ x _ => x
  | c => c
def els : Code → Code
  | .cond _ _ y => y
  | c => c
theorem Goes.then (hb : branch n0 s c = some true) (h : Goes P n0 w0 (thn c) s outs) : Goes P n0 w0 c s outs := by
  cases c with
  | cond o y z =>
    intro η a W hI hF
    simp only [branch] at hb
    split at hb
    · rename_i hok
      have hev := (hF.good hI.fix hI.n0n o hok).1
      split at hb
      · rename_i v hv
        simp only [Option.some.injEq] at hb; subst hb
        rw [hv, rV_bool] at hev
        exact wp_cond_true hev (h η a W hI hF)
      · simp at hb
    · simp at hb
  | _ => simp [branch] at hb
theorem Goes.else (hb : branch n0 s c = some false) (h : Goes P n0 w0 (els c) s outs) : Goes P n0 w0 c s outs := by
  cases c with
  | cond o y z =>
    intro η a W hI hF
    simp only [branch] at hb
    split at hb
    · rename_i hok
      have hev := (hF.good hI.fix hI.n0n o hok).1
      split at hb
      · rename_i v hv
        simp only [Option.some.injEq] at hb; subst hb
        rw [hv, rV_bool] at hev
        exact wp_cond_false hev (h η a W hI hF)
      · simp at hb
    · simp at hb
  | _ => simp [branch] at hb

/-- The start where blocks of the old world are known to be read alone: package variables. -/
theorem Inv.startRo (W : World) {H0 : Tr} (h : n0 ≤ W.heap.size) (hat : ∀ i, i < n0 → OkObj P ⟨fun i => i, fun _ => 0⟩ W n0 i (H0.get i)) (hb : ∀ i, n0 ≤ i → H0.get i = .dead) : Inv P n0 W H0 n0 ⟨fun i => i, fun _ => 0⟩ W :=
  InvT.to ⟨Below.refl _ _, Nat.le_refl _, h, fun _ _ => rfl, fun i h1 h2 => by omega, fun i hi => Nat.lt_of_lt_of_le hi h, fun i j _ _ _ _ e => e, hat, hb⟩
/-- A closed function whose body is known to run to true. -/
theorem Goes.true_from {H0 : Tr} {f : FuncId} {fn : Func} {c : Code} (hfn : P.funcs[f]? = some fn) (hc : fn.body = some c) (hsmall : fn.ntmps < 4000) (W : World) (hI : Inv P n0 W H0 n0 ⟨fun i => i, fun _ => 0⟩ W)
    {outs : List (X × St)} (h1 : Goes P n0 W c ⟨.nil, fn.ntmps, H0, n0⟩ outs) (h2 : outs.all (isTrue P fn) = true) :
    Calls P f #[] W fun e W' => e = .returned (.bool true) ∧ Below W.heap.size W W' := by
  have hF : Fr ⟨fun i => i, fun _ => 0⟩ ⟨.nil, fn.ntmps, H0, n0⟩ { tmps := (([] : List Value).map (rV ⟨fun i => i, fun _ => 0⟩)).toArray ++ Array.replicate (fn.ntmps - (([] : List Value).map (rV ⟨fun i => i, fun _ => 0⟩)).toArray.size) undef, defers := [] } := by
    refine ⟨hsmall, rfl, by simp, fun i hi => ?_, fun i => Wf.undef _, fun i hi => rfl⟩
    dsimp only at hi ⊢
    rw [Array.getElem?_append_right (by simp), Array.getElem?_replicate, if_pos (by simpa using hi)]
    show some undef = some (rV _ undef)
    rw [rV_undef]
  refine calls_of_wp hfn hc (wp_mono (h1 _ _ W hI hF) fun e a' W' hp => ?_)
  obtain ⟨p, hp, η', ha, hn, hI', hF', rfl⟩ := hp
  obtain ⟨x1, s'⟩ := p
  have hv := List.all_eq_true.1 h2 _ hp
  have fin : ∀ (v : Value), evResults P fn s' = some v → v = .bool true → a'.defers = [] ∧ ∃ v, (results fn a'.tmps).run P W' = .ok v W' ∧ (Ending.returned v = .returned (.bool true) ∧ Below W.heap.size W W') := by
    intro v hv e
    obtain ⟨r1, r2⟩ := evResults_sound hI' hF' hv
    subst e
    exact ⟨hF'.defers, _, r2, by rw [rV_bool], hI'.bel⟩
  cases x1 with
  | exit id => simp [isTrue] at hv
  | normal =>
    simp only [isTrue] at hv
    split at hv
    · rename_i hr; exact fin _ hr rfl
    · simp at hv
  | ret =>
    simp only [isTrue] at hv
    split at hv
    · rename_i hr; exact fin _ hr rfl
    · simp at hv
theorem Goes.true_ {f : FuncId} {fn : Func} {c : Code} (hfn : P.funcs[f]? = some fn) (hc : fn.body = some c) (hsmall : fn.ntmps < 4000) (W : World) (h : n0 ≤ W.heap.size)
    {outs : List (X × St)} (h1 : Goes P n0 W c ⟨.nil, fn.ntmps, .nil, n0⟩ outs) (h2 : outs.all (isTrue P fn) = true) :
    Calls P f #[] W fun e W' => e = .returned (.bool true) ∧ Below W.heap.size W W' :=
  Goes.true_from hfn hc hsmall W (Inv.start W h) h1 h2
end
end Go.Proofs.Ytoanbjnhoggpjaa.Ev
