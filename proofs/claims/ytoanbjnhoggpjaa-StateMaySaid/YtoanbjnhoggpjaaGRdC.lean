/-
  The document's Begin answers what the code's does (a closed call, evaluated whole).
-/
import Derived.Test.YtoanbjnhoggpjaaGStKo
import Derived.Test.YtoanbjnhoggpjaaRows
namespace Go.Proofs.Ytoanbjnhoggpjaa.Ev
set_option linter.unusedSimpArgs false
set_option linter.unusedVariables false
open Go Go.RowKit

def eqAgg (a b : Value) : Bool := match a, b with
  | .agg ⟨x⟩, .agg ⟨y⟩ => eqL x y
  | _, _ => false
theorem eqAgg_eq {a b : Value} (h : eqAgg a b = true) : a = b := by
  unfold eqAgg at h
  split at h
  · rw [eqL_eq h]
  · cases h
def isVal (P : Program) (fn : Func) (v : Value) (p : X × St) : Bool := match p.1 with
  | .exit _ => false
  | _ => match evResults P fn p.2 with
    | some u => eqAgg u v
    | none => false
section
variable {P : Program} {n0 : Nat}
theorem Goes.val_ {f : FuncId} {fn : Func} {c : Code} {v : Value} (hv0 : ∀ η, rV η v = v) (hfn : P.funcs[f]? = some fn) (hc : fn.body = some c) (hsmall : fn.ntmps < 4000) (W : World) (h : n0 ≤ W.heap.size)
    {outs : List (X × St)} (h1 : Goes P n0 W c ⟨.nil, fn.ntmps, .nil, n0⟩ outs) (h2 : outs.all (isVal P fn v) = true) :
    Calls P f #[] W fun e W' => e = .returned v ∧ Below W.heap.size W W' := by
  have hI := Inv.start (P := P) W h
  have hF : Fr ⟨fun i => i, fun _ => 0⟩ ⟨.nil, fn.ntmps, .nil, n0⟩ { tmps := (([] : List Value).map (rV ⟨fun i => i, fun _ => 0⟩)).toArray ++ Array.replicate (fn.ntmps - (([] : List Value).map (rV ⟨fun i => i, fun _ => 0⟩)).toArray.size) undef, defers := [] } := by
    refine ⟨hsmall, rfl, by simp, fun i hi => ?_, fun i => Wf.undef _, fun i hi => rfl⟩
    dsimp only at hi ⊢
    rw [Array.getElem?_append_right (by simp), Array.getElem?_replicate, if_pos (by simpa using hi)]
    show some undef = some (rV _ undef)
    rw [rV_undef]
  refine calls_of_wp hfn hc (wp_mono (h1 _ _ W hI hF) fun e a' W' hp => ?_)
  obtain ⟨p, hp, η', ha, hn, hI', hF', rfl⟩ := hp
  obtain ⟨x1, s'⟩ := p
  have hv := List.all_eq_true.1 h2 _ hp
  have fin : ∀ (u : Value), evResults P fn s' = some u → u = v → a'.defers = [] ∧ ∃ v', (results fn a'.tmps).run P W' = .ok v' W' ∧ (Ending.returned v' = .returned v ∧ Below W.heap.size W W') := by
    intro u hu e
    obtain ⟨r1, r2⟩ := evResults_sound hI' hF' hu
    subst e
    exact ⟨hF'.defers, _, r2, by rw [hv0], hI'.bel⟩
  cases x1 with
  | exit id => simp [isVal] at hv
  | normal =>
    simp only [isVal] at hv
    split at hv
    · rename_i u hr; exact fin u hr (eqAgg_eq hv)
    · simp at hv
  | ret =>
    simp only [isVal] at hv
    split at hv
    · rename_i u hr; exact fin u hr (eqAgg_eq hv)
    · simp at hv
end
noncomputable def bF : Nat := 1000
noncomputable def bcl : Caller := orc [] (evFn Try.prog 0 bF 9)
noncomputable def bc0 : Code := match Try.f21.body with | some c => c | none => .skip
noncomputable def bs0 : St := ⟨.nil, 16, .nil, 0⟩
noncomputable def br1 : List (X × St) := match (evCode Try.prog 0 bcl bF bc0 bs0).map (forgets (.node true (.node true .no .no) .no)) with | some l => l | _ => []
theorem bhm : Try.prog.follows .mixedOrders = true := by kernel_rfl
set_option maxRecDepth 100000 in
theorem be0 : (evCode Try.prog 0 bcl bF bc0 bs0).map (forgets (.node true (.node true .no .no) .no)) = some br1 := by kernel_rfl
end Go.Proofs.Ytoanbjnhoggpjaa.Ev
namespace Go.Proofs.Ytoanbjnhoggpjaa
open Go Go.RowKit

theorem rBegin_any (W : World) : Calls Try.prog 21 #[] W fun e W' => e = .returned (stV begS) ∧ Below W.heap.size W W' :=
  Ev.Goes.val_ (n0 := 0) (c := Ev.bc0) (fn := Try.f21) (fun η => stV_fix η _) Try.func21 (by kernel_rfl) (by decide) W (Nat.zero_le _)
    (Ev.Goes.ev Ev.bhm (Ev.orc_ok (Ev.evFn_sound (by kernel_rfl) 9) (fun f hf => by cases hf)) _ Ev.be0) (by kernel_rfl)
end Go.Proofs.Ytoanbjnhoggpjaa
