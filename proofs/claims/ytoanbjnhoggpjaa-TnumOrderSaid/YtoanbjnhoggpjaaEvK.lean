/-
  A closed call evaluated piece by piece: calls known to be true beforehand, and a body cut into its steps.
-/
import Derived.Test.YtoanbjnhoggpjaaEvE
namespace Go.Proofs.Ytoanbjnhoggpjaa.Ev
set_option linter.unusedSimpArgs false
set_option linter.unusedVariables false
set_option maxRecDepth 100000
open Go Go.RowKit

/-- Calls without arguments that are known to be true. -/
def orc (l : List FuncId) (call : Caller) : Caller := fun f args H n =>
  match args with
  | [] => match l.any (Nat.beq f) with
    | true => some [⟨.bool true, H, n⟩]
    | false => call f [] H n
  | a :: r => call f (a :: r) H n
section
variable {P : Program} {n0 : Nat} {w0 : World} {H : Tr} {n : Nat} {η : Env} {W : World} {call : Caller}

theorem Inv.below (h : Inv P n0 w0 H n η W) {W' : World} (hb : Below W.heap.size W W') : Inv P n0 w0 H n η W' :=
  InvT.to ⟨h.bel.trans (hb.mono h.bel.size), h.n0n, h.old, h.fix, h.new, fun i hi => Nat.lt_of_lt_of_le (h.lt i hi) hb.size, h.inj, fun i hi => (h.at' i hi).world (hb.block _ (h.lt i hi)), h.beyond⟩

theorem orc_ok (hc : CallOk P n0 w0 call) {l : List FuncId} (ho : ∀ f ∈ l, ∀ W : World, n0 ≤ W.heap.size → Calls P f #[] W fun e W' => e = .returned (.bool true) ∧ Below W.heap.size W W') : CallOk P n0 w0 (orc l call) := by
  intro f args H n outs h η W hI hw
  cases args with
  | cons a r => exact hc f (a :: r) H n outs h η W hI hw
  | nil =>
    simp only [orc] at h
    split at h
    · rename_i ha
      obtain ⟨g, hg, he⟩ := List.any_eq_true.1 ha
      obtain rfl : f = g := Nat.eq_of_beq_eq_true he
      simp only [Option.some.injEq] at h; subst h
      refine (ho f hg W (Nat.le_trans hI.old hI.bel.size)).mono fun e W' h => ?_
      obtain ⟨rfl, hb⟩ := h
      exact ⟨_, List.mem_singleton_self _, η, .refl _ _, Nat.le_refl _, hI.below hb, fun _ _ _ => by simp only [rV_bool], by rw [rV_bool]⟩
    · exact hc f [] H n outs h η W hI hw

/-- A result that is true. -/
def isTrue (P : Program) (fn : Func) (p : X × St) : Bool := match p.1 with
  | .exit _ => false
  | _ => match evResults P fn p.2 with
    | some (.bool true) => true
    | _ => false

/-- A closed function whose body has been evaluated. -/
theorem body_true (hm : P.follows .mixedOrders = true) {F : Nat} {f : FuncId} {fn : Func} {c : Code} (hfn : P.funcs[f]? = some fn) (hc : fn.body = some c) (hsmall : fn.ntmps < 4000) (W : World) (h : n0 ≤ W.heap.size) (hcall : CallOk P n0 W call)
    {outs : List (X × St)} (h1 : evCode P n0 call F c ⟨.nil, fn.ntmps, .nil, n0⟩ = some outs) (h2 : outs.all (isTrue P fn) = true) :
    Calls P f #[] W fun e W' => e = .returned (.bool true) ∧ Below W.heap.size W W' := by
  have hF : Fr ⟨fun i => i, fun _ => 0⟩ ⟨.nil, fn.ntmps, .nil, n0⟩ { tmps := (([] : List Value).map (rV ⟨fun i => i, fun _ => 0⟩)).toArray ++ Array.replicate (fn.ntmps - (([] : List Value).map (rV ⟨fun i => i, fun _ => 0⟩)).toArray.size) undef, defers := [] } := by
    refine ⟨hsmall, rfl, by simp, fun i hi => ?_, fun i => Wf.undef _, fun i hi => rfl⟩
    dsimp only at hi ⊢
    rw [Array.getElem?_append_right (by simp), Array.getElem?_replicate, if_pos (by simpa using hi)]
    show some undef = some (rV _ undef)
    rw [rV_undef]
  refine calls_of_wp hfn hc (wp_mono (evCode_sound hm hcall c _ outs _ _ W h1 (Inv.start W h) hF) fun e a' W' hp => ?_)
  obtain ⟨p, hp, η', ha, hn, hI', hF', rfl⟩ := hp
  obtain ⟨x1, s'⟩ := p
  have hv := List.all_eq_true.1 h2 _ hp
  have fin : ∀ (v : Value), evResults P fn s' = some v → v = .bool true → a'.defers = [] ∧ ∃ v, (results fn a'.tmps).run P W' = .ok v W' ∧ (Ending.returned v = .returned (.bool true) ∧ Below W.heap.size W W') := by
    intro v hv e
    obtain ⟨r1, r2⟩ := evResults_sound hI' hF' hv
    subst e
    exact ⟨hF'.defers, _, r2, by rw [rV_bool], hI'.bel⟩
  cases x1 with
  | exit id => simp [isTrue] at hv
  | normal =>
    simp only [isTrue] at hv
    split at hv
    · rename_i hr; exact fin _ hr rfl
    · simp at hv
  | ret =>
    simp only [isTrue] at hv
    split at hv
    · rename_i hr; exact fin _ hr rfl
    · simp at hv
end

def isSeq : Code → Bool
  | .seq _ _ => true
  | _ => false
def hd : Code → Code
  | .seq x _ => x
  | c => c
def tl : Code → Code
  | .seq _ y => y
  | c => c
/-- One step of a body, its state behind it known. -/
theorem step {P : Program} {n0 F : Nat} {call : Caller} {c : Code} {s s1 : St} {outs : List (X × St)} (hq : isSeq c = true) (h1 : evCode P n0 call F (hd c) s = some [(.normal, s1)]) (h2 : evCode P n0 call F (tl c) s1 = some outs) :
    evCode P n0 call F c s = some outs := by
  cases c with
  | seq x y =>
    simp only [hd, tl] at h1 h2
    rw [evCode, h1]
    exact h2
  | _ => simp [isSeq] at hq
end Go.Proofs.Ytoanbjnhoggpjaa.Ev
