/-
  A closed call evaluated: code, functions, and what a closed call comes to. A closed call evaluated piece by piece: calls known to be true beforehand, and a body cut into its steps. A closed call evaluated piece by piece, forgetting what is of no account any more: what a piece of code comes to, as a statement that steps, rounds and branches are put together from. A closed call evaluated piece by piece: calls whose answers are known beforehand, by their arguments. A closed call evaluated piece by piece: calls whose answers are known beforehand, by their arguments and by what lies in memory.
-/
import Derived.Test.YtjcnpjidkimldaaGreatDoorAEvA
namespace Go.Proofs.YtjcnpjidkimldaaGreatDoor.Ev
set_option linter.unusedSimpArgs false
set_option linter.unusedVariables false
set_option maxRecDepth 100000
open Go Go.RowKit

theorem rounds_mono {P : Program} {c : Code} {Q Q' : Exit → Act → World → Prop} : ∀ (k : Nat) {a : Act} {w : World}, (∀ e a w, Q e a w → Q' e a w) → Code.rounds P c Q k a w → Code.rounds P c Q' k a w
  | 0, _, _, _, h => h
  | k + 1, a, w, hq, h => wp_mono h fun e a w he => by
    cases e with
    | normal => exact rounds_mono k hq he
    | exit id => exact hq _ _ _ he
    | goto l => exact hq _ _ _ he
    | ret => exact hq _ _ _ he
    | panic ch => exact hq _ _ _ he
    | outgrown => exact hq _ _ _ he

def evLoop (ev : St → Option (List (X × St))) : Nat → St → Option (List (X × St))
  | 0, _ => none
  | k + 1, s => match ev s with
    | none => none
    | some outs => bindL (fun p => match p.1 with
      | .normal => evLoop ev k p.2
      | x => some [(x, p.2)]) outs

def evCode (P : Program) (n0 : Nat) (call : Caller) (F : Nat) : Code → St → Option (List (X × St))
  | .skip, s => some [(.normal, s)]
  | .label _, s => some [(.normal, s)]
  | .ret, s => some [(.ret, s)]
  | .exit id, s => some [(.exit id, s)]
  | .region _ ops false, s => match opsOk n0 ops with
    | true => (evOps P n0 call ops ops.toList s).map (·.map fun s => (.normal, s))
    | false => none
  | .region _ ops true, s => (evRegion P n0 call ops s).map (·.map fun s => (.normal, s))
  | .seq x y, s => match evCode P n0 call F x s with
    | none => none
    | some outs => bindL (fun p => match p.1 with
      | .normal => evCode P n0 call F y p.2
      | x => some [(x, p.2)]) outs
  | .cond c x y, s => if okOp n0 c then
      match s.ev c with
      | .bool true => evCode P n0 call F x s
      | .bool false => evCode P n0 call F y s
      | _ => none
    else none
  | .block id c, s => (evCode P n0 call F c s).map (·.map fun p => (match p.1 with
      | .exit id' => if id' = id then .normal else .exit id'
      | x => x, p.2))
  | .loop c, s => evLoop (evCode P n0 call F c) F s
  | .scope c, s => evCode P n0 call F c s
  | _, _ => none

/-- What is read out at a function's end. -/
def evRes (P : Program) (s : St) : List ResultVar → Option (List Value)
  | [] => some []
  | .tmp t :: r => match evRes P s r with
    | some l => some (s.T.get t :: l)
    | none => none
  | .cell a t :: r => match s.T.get a with
    | .pointer (some p) => match evLoad P s.H t (.pointer (some p)), evRes P s r with
      | some v, some l => some (v :: l)
      | _, _ => none
    | _ => none
def evResults (P : Program) (fn : Func) (s : St) : Option Value :=
  match evRes P s fn.results.toList with
  | some [v] => some v
  | some vs => some (.tuple vs.toArray)
  | none => none

def tvOf : List Value → Nat → TV → TV
  | [], _, t => t
  | v :: l, i, t => tvOf l (i + 1) (TV.set tvDepth t i v)

section
variable {P : Program} {n0 : Nat} {w0 : World} {call : Caller}

/-- What a piece of code comes to. -/
def Post (P : Program) (n0 : Nat) (w0 : World) (outs : List (X × St)) (n : Nat) (η : Env) : Exit → Act → World → Prop := fun e a W =>
  ∃ p ∈ outs, ∃ η', Agree n η η' ∧ n ≤ p.2.n ∧ Inv P n0 w0 p.2.H p.2.n η' W ∧ Fr η' p.2 a ∧ e = p.1.to
theorem Post.mono {outs outs' : List (X × St)} {n n' : Nat} {η η' : Env} {e : Exit} {a : Act} {W : World} (h : Post P n0 w0 outs n' η' e a W) (hs : ∀ p ∈ outs, p ∈ outs') (ha : Agree n η η') (hn : n ≤ n') : Post P n0 w0 outs' n η e a W := by
  obtain ⟨p, hp, η2, h1, h2, h3⟩ := h
  exact ⟨p, hs p hp, η2, ha.trans h1 hn, Nat.le_trans hn h2, h3⟩
theorem map_mem {outs : List (X × St)} {ss : Option (List St)} (h : ss.map (·.map fun s => ((.normal, s) : X × St)) = some outs) : ∃ l, ss = some l ∧ ∀ s ∈ l, ((.normal, s) : X × St) ∈ outs := by
  cases ss with
  | none => simp at h
  | some l => simp at h; subst h; exact ⟨l, rfl, fun s hs => List.mem_map.2 ⟨s, hs, rfl⟩⟩
theorem Post.no_panic {outs : List (X × St)} {n : Nat} {η : Env} {c : List PanicEntry} {a : Act} {w : World} (h : Post P n0 w0 outs n η (.panic c) a w) : False := by
  obtain ⟨p, -, η', -, -, -, -, he⟩ := h
  obtain ⟨x, s⟩ := p
  cases x <;> simp [X.to] at he

theorem evLoop_sound {ev : St → Option (List (X × St))} {c : Code} (hev : ∀ s outs η a W, ev s = some outs → Inv P n0 w0 s.H s.n η W → Fr η s a → c.wp P (Post P n0 w0 outs s.n η) a W) :
    ∀ (k : Nat) (s : St) (outs : List (X × St)) (η : Env) (a : Act) (W : World), evLoop ev k s = some outs → Inv P n0 w0 s.H s.n η W → Fr η s a → Code.rounds P c (Post P n0 w0 outs s.n η) k a W
  | 0, s, outs, η, a, W, he, hI, hF => by simp [evLoop] at he
  | k + 1, s, outs, η, a, W, he, hI, hF => by
    unfold evLoop at he
    cases h1 : ev s with
    | none => rw [h1] at he; simp at he
    | some o1 =>
      rw [h1] at he
      dsimp only at he
      rw [rounds_succ]
      refine wp_mono (hev s o1 η a W h1 hI hF) fun e a' W' hp => ?_
      obtain ⟨p, hp, η', ha, hn, hI', hF', rfl⟩ := hp
      obtain ⟨x, s'⟩ := p
      obtain ⟨u, hu, hsub⟩ := bindL_mem he _ hp
      cases x with
      | normal =>
        have := evLoop_sound hev k s' u η' a' W' hu hI' hF'
        exact rounds_mono k (fun e a W h => h.mono hsub ha hn) this
      | exit id =>
        simp only [Option.some.injEq] at hu; subst hu
        exact ⟨_, hsub _ (List.mem_singleton_self _), η', ha, hn, hI', hF', rfl⟩
      | ret =>
        simp only [Option.some.injEq] at hu; subst hu
        exact ⟨_, hsub _ (List.mem_singleton_self _), η', ha, hn, hI', hF', rfl⟩

theorem evCode_sound (hm : P.follows .mixedOrders = true) (hc : CallOk P n0 w0 call) {F : Nat} : ∀ (c : Code) (s : St) (outs : List (X × St)) (η : Env) (a : Act) (W : World), evCode P n0 call F c s = some outs → Inv P n0 w0 s.H s.n η W → Fr η s a →
    c.wp P (Post P n0 w0 outs s.n η) a W := by
  intro c
  induction c with
  | skip =>
    intro s outs η a W he hI hF
    simp only [evCode, Option.some.injEq] at he; subst he
    exact wp_skip ⟨_, List.mem_singleton_self _, η, .refl _ _, Nat.le_refl _, hI, hF, rfl⟩
  | label l =>
    intro s outs η a W he hI hF
    simp only [evCode, Option.some.injEq] at he; subst he
    exact wp_label ⟨_, List.mem_singleton_self _, η, .refl _ _, Nat.le_refl _, hI, hF, rfl⟩
  | ret =>
    intro s outs η a W he hI hF
    simp only [evCode, Option.some.injEq] at he; subst he
    exact wp_ret ⟨_, List.mem_singleton_self _, η, .refl _ _, Nat.le_refl _, hI, hF, rfl⟩
  | exit id =>
    intro s outs η a W he hI hF
    simp only [evCode, Option.some.injEq] at he; subst he
    exact wp_exit ⟨_, List.mem_singleton_self _, η, .refl _ _, Nat.le_refl _, hI, hF, rfl⟩
  | region id ops draw =>
    intro s outs η a W he hI hF
    cases draw with
    | false =>
      simp only [evCode] at he
      cases hop : opsOk n0 ops with
      | false => rw [hop] at he; simp at he
      | true =>
      rw [hop] at he
      obtain ⟨l, hl, hsub⟩ := map_mem he
      refine wp_region_list (evOps_sound hc _ s l η a W hop hl hI hF fun s' hs' η' a' W' ha hn hI' hF' => ?_)
      exact ⟨_, hsub s' hs', η', ha, hn, hI', hF', rfl⟩
    | true =>
      simp only [evCode] at he
      obtain ⟨l, hl, hsub⟩ := map_mem he
      refine evRegion_sound hm hc (fun c a b w h => (Post.no_panic h).elim) hl hI hF fun s' hs' η' a' W' ha hn hI' hF' => ?_
      exact ⟨_, hsub s' hs', η', ha, hn, hI', hF', rfl⟩
  | seq x y ihx ihy =>
    intro s outs η a W he hI hF
    simp only [evCode] at he
    cases h1 : evCode P n0 call F x s with
    | none => rw [h1] at he; simp at he
    | some o1 =>
      rw [h1] at he
      dsimp only at he
      refine wp_seq (wp_mono (ihx s o1 η a W h1 hI hF) fun e a' W' hp => ?_)
      obtain ⟨p, hp, η', ha, hn, hI', hF', rfl⟩ := hp
      obtain ⟨x1, s'⟩ := p
      obtain ⟨u, hu, hsub⟩ := bindL_mem he _ hp
      cases x1 with
      | normal => exact wp_mono (ihy s' u η' a' W' hu hI' hF') fun e a W h => h.mono hsub ha hn
      | exit id =>
        simp only [Option.some.injEq] at hu; subst hu
        exact ⟨_, hsub _ (List.mem_singleton_self _), η', ha, hn, hI', hF', rfl⟩
      | ret =>
        simp only [Option.some.injEq] at hu; subst hu
        exact ⟨_, hsub _ (List.mem_singleton_self _), η', ha, hn, hI', hF', rfl⟩
  | cond c x y ihx ihy =>
    intro s outs η a W he hI hF
    simp only [evCode] at he
    split at he
    case isFalse => simp at he
    rename_i hok
    have hev := (hF.good hI.fix hI.n0n c hok).1
    split at he
    · rename_i hb
      rw [hb, rV_bool] at hev
      exact wp_cond_true hev (ihx s outs η a W he hI hF)
    · rename_i hb
      rw [hb, rV_bool] at hev
      exact wp_cond_false hev (ihy s outs η a W he hI hF)
    · simp at he
  | block id c ih =>
    intro s outs η a W he hI hF
    simp only [evCode] at he
    cases h1 : evCode P n0 call F c s with
    | none => rw [h1] at he; simp at he
    | some o1 =>
      rw [h1] at he
      simp only [Option.map_some, Option.some.injEq] at he; subst he
      refine wp_block (wp_mono (ih s o1 η a W h1 hI hF) fun e a' W' hp => ?_)
      obtain ⟨p, hp, η', ha, hn, hI', hF', rfl⟩ := hp
      obtain ⟨x1, s'⟩ := p
      have hmem := List.mem_map_of_mem (f := fun p : X × St => ((match p.1 with
        | .exit id' => if id' = id then .normal else .exit id'
        | x => x, p.2) : X × St)) hp
      cases x1 with
      | normal => exact ⟨_, hmem, η', ha, hn, hI', hF', rfl⟩
      | ret => exact ⟨_, hmem, η', ha, hn, hI', hF', rfl⟩
      | exit id' =>
        simp only [X.to, Exit.inBlock]
        dsimp only at hmem
        split
        · rename_i hid
          rw [if_pos hid] at hmem
          exact ⟨_, hmem, η', ha, hn, hI', hF', rfl⟩
        · rename_i hid
          rw [if_neg hid] at hmem
          exact ⟨_, hmem, η', ha, hn, hI', hF', rfl⟩
  | loop c ih =>
    intro s outs η a W he hI hF
    simp only [evCode] at he
    exact wp_loop_rounds F (evLoop_sound ih F s outs η a W he hI hF)
  | scope c ih =>
    intro s outs η a W he hI hF
    simp only [evCode] at he
    refine wp_scope_straight (wp_mono (ih s outs η a W he hI hF) fun e a' W' hp => ?_)
    have hp0 := hp
    obtain ⟨p, -, η', -, -, -, -, rfl⟩ := hp
    obtain ⟨x1, s'⟩ := p
    cases x1 <;> exact hp0
  | _ => intro s outs η a W he hI hF; simp [evCode] at he

theorem evRes_sound {s : St} {η : Env} {a : Act} {W : World} (hI : Inv P n0 w0 s.H s.n η W) (hF : Fr η s a) : ∀ (l : List ResultVar) (vs : List Value), evRes P s l = some vs →
    WfL s.n vs ∧ Sem.run P (l.mapM fun (x : ResultVar) => match x with
      | ResultVar.tmp t => (pure (a.tmps.getD t undef) : Sem Value)
      | ResultVar.cell b t => do loadVar t (← asAddr (a.tmps.getD b undef))) W = Result.ok (vs.map (rV η)) W
  | [], vs, h => by
    simp only [evRes, Option.some.injEq] at h; subst h
    exact ⟨fun v hv => by simp at hv, by simp [Sem.run_pure]⟩
  | .tmp t :: r, vs, h => by
    unfold evRes at h
    split at h
    · rename_i l hl
      simp only [Option.some.injEq] at h; subst h
      obtain ⟨h1, h2⟩ := evRes_sound hI hF r l hl
      have ht := (hF.good hI.fix hI.n0n (.tmp t) rfl)
      simp only [Act.eval, St.ev] at ht
      refine ⟨fun v hv => ?_, ?_⟩
      · rcases List.mem_cons.1 hv with rfl | hv
        · exact ht.2
        · exact h1 v hv
      · simp only [List.mapM_cons, Sem.run_bind, Sem.run_pure, Result.andThen_ok, h2, ht.1, List.map_cons]
    · simp at h
  | .cell b t :: r, vs, h => by
    unfold evRes at h
    split at h
    · rename_i p hp
      split at h
      · rename_i v l hv hl
        simp only [Option.some.injEq] at h; subst h
        obtain ⟨h1, h2⟩ := evRes_sound hI hF r l hl
        have ht := (hF.good hI.fix hI.n0n (.tmp b) rfl)
        simp only [Act.eval, St.ev] at ht
        obtain ⟨l1, l2⟩ := load_sound hI.toInq hv
        refine ⟨fun u hu => ?_, ?_⟩
        · rcases List.mem_cons.1 hu with rfl | hu
          · exact l1
          · exact h1 u hu
        · rw [rV_psome] at l2
          simp only [Instr.loadAt, Instr.sureAddr, Sem.run_bind, Sem.run_pure, Result.andThen_ok] at l2
          have hAs : (asAddr (a.tmps.getD b undef)).run P W = .ok (rA η p) W := by rw [ht.1, hp, rV_psome]; rfl
          simp only [List.mapM_cons, Sem.run_bind, hAs, Sem.run_pure, Result.andThen_ok, l2, h2, List.map_cons]
      · simp at h
    · simp at h
theorem evResults_sound {s : St} {η : Env} {a : Act} {W : World} (hI : Inv P n0 w0 s.H s.n η W) (hF : Fr η s a) {fn : Func} {v : Value} (h : evResults P fn s = some v) :
    Wf s.n v ∧ (results fn a.tmps).run P W = .ok (rV η v) W := by
  unfold evResults at h
  have key : ∀ vs, evRes P s fn.results.toList = some vs → WfL s.n vs ∧ (results fn a.tmps).run P W = .ok (if h : (vs.map (rV η)).toArray.size = 1 then (vs.map (rV η)).toArray[0] else .tuple (vs.map (rV η)).toArray) W := by
    intro vs hvs
    obtain ⟨h1, h2⟩ := evRes_sound hI hF _ _ hvs
    refine ⟨h1, ?_⟩
    unfold results
    rw [Array.mapM_eq_mapM_toList]
    simp only [map_eq_pure_bind, Sem.run_bind]
    erw [h2]
    simp only [Result.andThen_ok, Sem.run_pure]
  split at h
  · rename_i u hu
    simp only [Option.some.injEq] at h; subst h
    obtain ⟨h1, h2⟩ := key _ hu
    exact ⟨h1 _ (List.mem_singleton_self _), by rw [h2]; simp⟩
  · rename_i vs hne hvs
    simp only [Option.some.injEq] at h; subst h
    obtain ⟨h1, h2⟩ := key _ hvs
    refine ⟨WfL.tuple.2 h1, ?_⟩
    rw [h2, dif_neg]
    · simp
    · intro hsz
      simp at hsz
      match vs, hsz with
      | [u], _ => exact hne u rfl
  · simp at h
theorem tvOf_get : ∀ (l : List Value) (i : Nat) (t : TV), i + l.length ≤ 4000 → ∀ j, (tvOf l i t).get j = if i ≤ j ∧ j < i + l.length then l.getD (j - i) undef else t.get j
  | [], i, t, h, j => by
    simp only [tvOf, List.length_nil]
    rw [if_neg (by omega)]
  | v :: l, i, t, h, j => by
    simp only [List.length_cons] at h ⊢
    simp only [tvOf]
    rw [tvOf_get l (i + 1) _ (by omega) j, tv_get_set (by omega)]
    by_cases h1 : i + 1 ≤ j ∧ j < i + 1 + l.length
    · rw [if_pos h1, if_pos (by omega), show j - i = (j - (i + 1)) + 1 by omega]
      simp
    · rw [if_neg h1]
      by_cases h2 : j = i
      · subst h2; rw [if_pos rfl, if_pos (by omega)]; simp
      · rw [if_neg h2, if_neg (by omega)]
/-! ### A closed call -/
/-- The start: no memory is known. -/
theorem Inv.start (W : World) (h : n0 ≤ W.heap.size) : Inv P n0 W .nil n0 ⟨fun i => i, fun _ => 0⟩ W :=
  InvT.to ⟨Below.refl _ _, Nat.le_refl _, h, fun _ _ => rfl, fun i h1 h2 => by omega, fun i hi => Nat.lt_of_lt_of_le hi h, fun i j _ _ l => l.elim, fun i _ => trivial, fun i _ => rfl⟩
end
end Go.Proofs.YtjcnpjidkimldaaGreatDoor.Ev

namespace Go.Proofs.YtjcnpjidkimldaaGreatDoor.Ev
set_option linter.unusedSimpArgs false
set_option linter.unusedVariables false
set_option maxRecDepth 100000
open Go Go.RowKit

section
variable {P : Program} {n0 : Nat} {w0 : World} {H : Tr} {n : Nat} {η : Env} {W : World} {call : Caller}

theorem Inv.below (h : Inv P n0 w0 H n η W) {W' : World} (hb : Below W.heap.size W W') : Inv P n0 w0 H n η W' :=
  InvT.to ⟨h.bel.trans (hb.mono h.bel.size), h.n0n, h.old, h.fix, h.new, fun i hi => Nat.lt_of_lt_of_le (h.lt i hi) hb.size, h.inj, fun i hi => (h.at' i hi).world (hb.block _ (h.lt i hi)), h.beyond⟩

/-- A result that is true. -/
def isTrue (P : Program) (fn : Func) (p : X × St) : Bool := match p.1 with
  | .exit _ => false
  | _ => match evResults P fn p.2 with
    | some (.bool true) => true
    | _ => false

end

def isSeq : Code → Bool
  | .seq _ _ => true
  | _ => false
def hd : Code → Code
  | .seq x _ => x
  | c => c
def tl : Code → Code
  | .seq _ y => y
  | c => c
/-- One step of a body, its state behind it known. -/
theorem step {P : Program} {n0 F : Nat} {call : Caller} {c : Code} {s s1 : St} {outs : List (X × St)} (hq : isSeq c = true) (h1 : evCode P n0 call F (hd c) s = some [(.normal, s1)]) (h2 : evCode P n0 call F (tl c) s1 = some outs) :
    evCode P n0 call F c s = some outs := by
  cases c with
  | seq x y =>
    simp only [hd, tl] at h1 h2
    rw [evCode, h1]
    exact h2
  | _ => simp [isSeq] at hq
end Go.Proofs.YtjcnpjidkimldaaGreatDoor.Ev

namespace Go.Proofs.YtjcnpjidkimldaaGreatDoor.Ev
set_option linter.unusedSimpArgs false
set_option linter.unusedVariables false
set_option maxRecDepth 100000
open Go Go.RowKit

/-- Which blocks stay. -/
inductive Mk where
  | no
  | node (b : Bool) (l r : Mk)
def prune : Mk → Tr → Tr
  | .node b l r, .node o l' r' => .node (match b with | true => o | false => .dead) (prune l l') (prune r r')
  | _, _ => .nil
theorem prune_get : ∀ (m : Mk) (t : Tr) (i : Nat), (prune m t).get i = t.get i ∨ (prune m t).get i = .dead
  | .no, t, i => .inr (by simp [prune, Tr.get])
  | .node b l r, .nil, i => .inr (by simp [prune, Tr.get])
  | .node b l r, .node o l' r', i => by
    simp only [prune, Tr.get]
    cases Nat.beq i 0 with
    | true => cases b <;> simp
    | false =>
      dsimp only
      cases Nat.beq (i % 2) 1 with
      | true => exact prune_get l l' _
      | false => exact prune_get r r' _

section
variable {P : Program} {n0 : Nat} {w0 : World} {H : Tr} {n : Nat} {η : Env} {W : World} {call : Caller} {F : Nat} {c : Code} {s s1 : St} {outs : List (X × St)} {x : X}

theorem Inv.forget (h : Inv P n0 w0 H n η W) {H' : Tr} (hH : ∀ i, H'.get i = H.get i ∨ H'.get i = .dead) : Inv P n0 w0 H' n η W := by
  refine InvT.to ⟨h.bel, h.n0n, h.old, h.fix, h.new, h.lt, ?_, ?_, ?_⟩
  · intro i j hi hj li lj e
    rcases hH i with e1 | e1
    · rcases hH j with e2 | e2
      · rw [e1] at li; rw [e2] at lj
        exact h.inj i j hi hj li lj e
      · rw [e2] at lj; exact lj.elim
    · rw [e1] at li; exact li.elim
  · intro i hi
    rcases hH i with e1 | e1
    · rw [e1]; exact h.at' i hi
    · rw [e1]; trivial
  · intro i hi
    rcases hH i with e1 | e1
    · rw [e1]; exact h.beyond i hi
    · exact e1

def St.forget (m : Mk) (s : St) : St := ⟨s.T, s.m, prune m s.H, s.n⟩
def forgets (m : Mk) (outs : List (X × St)) : List (X × St) := outs.map fun p => (p.1, p.2.forget m)

/-- What a piece of code comes to, from a state. -/
def Goes (P : Program) (n0 : Nat) (w0 : World) (c : Code) (s : St) (outs : List (X × St)) : Prop :=
  ∀ (η : Env) (a : Act) (W : World), Inv P n0 w0 s.H s.n η W → Fr η s a → c.wp P (Post P n0 w0 outs s.n η) a W
/-- The same of rounds. -/
def Turns (P : Program) (n0 : Nat) (w0 : World) (c : Code) (k : Nat) (s : St) (outs : List (X × St)) : Prop :=
  ∀ (η : Env) (a : Act) (W : World), Inv P n0 w0 s.H s.n η W → Fr η s a → Code.rounds P c (Post P n0 w0 outs s.n η) k a W

theorem Goes.ev (hm : P.follows .mixedOrders = true) (hc : CallOk P n0 w0 call) (m : Mk) (h : (evCode P n0 call F c s).map (forgets m) = some outs) : Goes P n0 w0 c s outs := by
  intro η a W hI hF
  cases h1 : evCode P n0 call F c s with
  | none => rw [h1] at h; simp at h
  | some o1 =>
    rw [h1] at h
    simp only [Option.map_some, Option.some.injEq] at h; subst h
    refine wp_mono (evCode_sound hm hc c s o1 η a W h1 hI hF) fun e a' W' hp => ?_
    obtain ⟨p, hp, η', ha, hn, hI', hF', rfl⟩ := hp
    exact ⟨(p.1, p.2.forget m), List.mem_map_of_mem (f := fun p : X × St => (p.1, p.2.forget m)) hp, η', ha, hn, hI'.forget (prune_get m _), ⟨hF'.1, hF'.2, hF'.3, hF'.4, hF'.5, hF'.6⟩, rfl⟩
theorem Goes.seq (hq : isSeq c = true) (h1 : Goes P n0 w0 (hd c) s [(.normal, s1)]) (h2 : Goes P n0 w0 (tl c) s1 outs) : Goes P n0 w0 c s outs := by
  cases c with
  | seq x y =>
    intro η a W hI hF
    refine wp_seq (wp_mono (h1 η a W hI hF) fun e a' W' hp => ?_)
    obtain ⟨p, hp, η', ha, hn, hI', hF', rfl⟩ := hp
    obtain rfl := List.mem_singleton.1 hp
    exact wp_mono (h2 η' a' W' hI' hF') fun e a W h => h.mono (fun _ h => h) ha hn
  | _ => simp [isSeq] at hq
def isNormal : X → Bool
  | .normal => true
  | _ => false
def inner : Code → Code
  | .block _ c => c
  | .loop c => c
  | .scope c => c
  | c => c
def isBlock (id : Nat) : Code → Bool
  | .block i _ => Nat.beq i id
  | _ => false
def isLoop : Code → Bool
  | .loop _ => true
  | _ => false
def leave (id : Nat) : X → X
  | .exit i => match Nat.beq i id with | true => .normal | false => .exit i
  | x => x
theorem Goes.block (id : Nat) (hq : isBlock id c = true) (h1 : Goes P n0 w0 (inner c) s [(x, s1)]) : Goes P n0 w0 c s [(leave id x, s1)] := by
  cases c with
  | block i b =>
    obtain rfl : i = id := Nat.eq_of_beq_eq_true hq
    intro η a W hI hF
    refine wp_block (wp_mono (h1 η a W hI hF) fun e a' W' hp => ?_)
    obtain ⟨p, hp, η', ha, hn, hI', hF', rfl⟩ := hp
    obtain rfl := List.mem_singleton.1 hp
    cases x with
    | normal => exact ⟨_, List.mem_singleton_self _, η', ha, hn, hI', hF', rfl⟩
    | ret => exact ⟨_, List.mem_singleton_self _, η', ha, hn, hI', hF', rfl⟩
    | exit j =>
      simp only [X.to, Exit.inBlock]
      split
      · rename_i e
        have hl : leave i (X.exit j) = .normal := by subst e; simp [leave]
        exact ⟨_, List.mem_singleton_self _, η', ha, hn, hI', hF', by rw [hl]; rfl⟩
      · rename_i e
        have hl : leave i (X.exit j) = .exit j := by simp [leave, beqF e]
        exact ⟨_, List.mem_singleton_self _, η', ha, hn, hI', hF', by rw [hl]; rfl⟩
  | _ => simp [isBlock] at hq
theorem Goes.loop {k : Nat} (hq : isLoop c = true) (h : Turns P n0 w0 (inner c) k s outs) : Goes P n0 w0 c s outs := by
  cases c with
  | loop b =>
    intro η a W hI hF
    exact wp_loop_rounds k (h η a W hI hF)
  | _ => simp [isLoop] at hq
theorem Turns.next {k : Nat} (h1 : Goes P n0 w0 c s [(.normal, s1)]) (h2 : Turns P n0 w0 c k s1 outs) : Turns P n0 w0 c (k + 1) s outs := by
  intro η a W hI hF
  rw [rounds_succ]
  refine wp_mono (h1 η a W hI hF) fun e a' W' hp => ?_
  obtain ⟨p, hp, η', ha, hn, hI', hF', rfl⟩ := hp
  obtain rfl := List.mem_singleton.1 hp
  exact rounds_mono k (fun e a W h => h.mono (fun _ h => h) ha hn) (h2 η' a' W' hI' hF')
theorem Turns.last {k : Nat} (hx : isNormal x = false) (h1 : Goes P n0 w0 c s [(x, s1)]) : Turns P n0 w0 c (k + 1) s [(x, s1)] := by
  intro η a W hI hF
  rw [rounds_succ]
  refine wp_mono (h1 η a W hI hF) fun e a' W' hp => ?_
  obtain ⟨p, hp, η', ha, hn, hI', hF', rfl⟩ := hp
  obtain rfl := List.mem_singleton.1 hp
  cases x with
  | normal => simp [isNormal] at hx
  | exit id => exact ⟨_, List.mem_singleton_self _, η', ha, hn, hI', hF', rfl⟩
  | ret => exact ⟨_, List.mem_singleton_self _, η', ha, hn, hI', hF', rfl⟩
def branch (n0 : Nat) (s : St) : Code → Option Bool
  | .cond o _ _ => match okOp n0 o with
    | true => match s.ev o with
      | .bool b => some b
      | _ => none
    | false => none
  | _ => none
def thn : Code → Code
  | .cond _ x _ => x
  | c => c
def els : Code → Code
  | .cond _ _ y => y
  | c => c
theorem Goes.then (hb : branch n0 s c = some true) (h : Goes P n0 w0 (thn c) s outs) : Goes P n0 w0 c s outs := by
  cases c with
  | cond o y z =>
    intro η a W hI hF
    simp only [branch] at hb
    split at hb
    · rename_i hok
      have hev := (hF.good hI.fix hI.n0n o hok).1
      split at hb
      · rename_i v hv
        simp only [Option.some.injEq] at hb; subst hb
        rw [hv, rV_bool] at hev
        exact wp_cond_true hev (h η a W hI hF)
      · simp at hb
    · simp at hb
  | _ => simp [branch] at hb
theorem Goes.else (hb : branch n0 s c = some false) (h : Goes P n0 w0 (els c) s outs) : Goes P n0 w0 c s outs := by
  cases c with
  | cond o y z =>
    intro η a W hI hF
    simp only [branch] at hb
    split at hb
    · rename_i hok
      have hev := (hF.good hI.fix hI.n0n o hok).1
      split at hb
      · rename_i v hv
        simp only [Option.some.injEq] at hb; subst hb
        rw [hv, rV_bool] at hev
        exact wp_cond_false hev (h η a W hI hF)
      · simp at hb
    · simp at hb
  | _ => simp [branch] at hb

/-- The start where blocks of the old world are known to be read alone: package variables. -/
theorem Inv.startRo (W : World) {H0 : Tr} (h : n0 ≤ W.heap.size) (hat : ∀ i, i < n0 → OkObj P ⟨fun i => i, fun _ => 0⟩ W n0 i (H0.get i)) (hb : ∀ i, n0 ≤ i → H0.get i = .dead) : Inv P n0 W H0 n0 ⟨fun i => i, fun _ => 0⟩ W :=
  InvT.to ⟨Below.refl _ _, Nat.le_refl _, h, fun _ _ => rfl, fun i h1 h2 => by omega, fun i hi => Nat.lt_of_lt_of_le hi h, fun i j _ _ _ _ e => e, hat, hb⟩
/-- A closed function whose body is known to run to true. -/
theorem Goes.true_from {H0 : Tr} {f : FuncId} {fn : Func} {c : Code} (hfn : P.funcs[f]? = some fn) (hc : fn.body = some c) (hsmall : fn.ntmps < 4000) (W : World) (hI : Inv P n0 W H0 n0 ⟨fun i => i, fun _ => 0⟩ W)
    {outs : List (X × St)} (h1 : Goes P n0 W c ⟨.nil, fn.ntmps, H0, n0⟩ outs) (h2 : outs.all (isTrue P fn) = true) :
    Calls P f #[] W fun e W' => e = .returned (.bool true) ∧ Below W.heap.size W W' := by
  have hF : Fr ⟨fun i => i, fun _ => 0⟩ ⟨.nil, fn.ntmps, H0, n0⟩ { tmps := (([] : List Value).map (rV ⟨fun i => i, fun _ => 0⟩)).toArray ++ Array.replicate (fn.ntmps - (([] : List Value).map (rV ⟨fun i => i, fun _ => 0⟩)).toArray.size) undef, defers := [] } := by
    refine ⟨hsmall, rfl, by simp, fun i hi => ?_, fun i => Wf.undef _, fun i hi => rfl⟩
    dsimp only at hi ⊢
    rw [Array.getElem?_append_right (by simp), Array.getElem?_replicate, if_pos (by simpa using hi)]
    show some undef = some (rV _ undef)
    rw [rV_undef]
  refine calls_of_wp hfn hc (wp_mono (h1 _ _ W hI hF) fun e a' W' hp => ?_)
  obtain ⟨p, hp, η', ha, hn, hI', hF', rfl⟩ := hp
  obtain ⟨x1, s'⟩ := p
  have hv := List.all_eq_true.1 h2 _ hp
  have fin : ∀ (v : Value), evResults P fn s' = some v → v = .bool true → a'.defers = [] ∧ ∃ v, (results fn a'.tmps).run P W' = .ok v W' ∧ (Ending.returned v = .returned (.bool true) ∧ Below W.heap.size W W') := by
    intro v hv e
    obtain ⟨r1, r2⟩ := evResults_sound hI' hF' hv
    subst e
    exact ⟨hF'.defers, _, r2, by rw [rV_bool], hI'.bel⟩
  cases x1 with
  | exit id => simp [isTrue] at hv
  | normal =>
    simp only [isTrue] at hv
    split at hv
    · rename_i hr; exact fin _ hr rfl
    · simp at hv
  | ret =>
    simp only [isTrue] at hv
    split at hv
    · rename_i hr; exact fin _ hr rfl
    · simp at hv
end
end Go.Proofs.YtjcnpjidkimldaaGreatDoor.Ev

namespace Go.Proofs.YtjcnpjidkimldaaGreatDoor.Ev
set_option linter.unusedSimpArgs false
set_option linter.unusedVariables false
set_option maxRecDepth 100000
open Go Go.RowKit

section
variable {P : Program} {n0 : Nat} {w0 : World} {call : Caller}
end
end Go.Proofs.YtjcnpjidkimldaaGreatDoor.Ev

namespace Go.Proofs.YtjcnpjidkimldaaGreatDoor.Ev
set_option linter.unusedSimpArgs false
set_option linter.unusedVariables false
set_option maxRecDepth 100000
open Go Go.RowKit

def orcG (o : FuncId → List Value → Tr → Nat → Option Rv) (call : Caller) : Caller := fun f args H n =>
  match o f args H n with
  | some q => some [q]
  | none => call f args H n
/-- What is asked of answers that are known beforehand. -/
def OrcOk (P : Program) (n0 : Nat) (w0 : World) (o : FuncId → List Value → Tr → Nat → Option Rv) : Prop :=
  ∀ f args H n q, o f args H n = some q → ∀ η W, Inv P n0 w0 H n η W → WfL n args →
    Calls P f (args.map (rV η)).toArray W fun e W' => ∃ η', Agree n η η' ∧ n ≤ q.n ∧ Inv P n0 w0 q.H q.n η' W' ∧ Wf q.n q.v ∧ e = .returned (rV η' q.v)
/-- Functions, the known answers at every depth. -/
def evFnG (P : Program) (n0 : Nat) (F : Nat) (o : FuncId → List Value → Tr → Nat → Option Rv) : Nat → Caller
  | 0, _, _, _, _ => none
  | k + 1, f, args, H, n =>
    match P.funcs[f]? with
    | some fn => match fn.body with
      | some c =>
        let m := max args.length fn.ntmps
        if m < 4000 then
          match evCode P n0 (orcG o (evFnG P n0 F o k)) F c ⟨tvOf args 0 .nil, m, H, n⟩ with
          | none => none
          | some outs => bindL (fun p => match p.1 with
            | .exit _ => none
            | _ => match evResults P fn p.2 with
              | some v => some [⟨v, p.2.H, p.2.n⟩]
              | none => none) outs
        else none
      | none => none
    | none => none
/-- The one, else the other. -/
def orElse2 (o o' : FuncId → List Value → Tr → Nat → Option Rv) : FuncId → List Value → Tr → Nat → Option Rv := fun f args H n =>
  match o f args H n with
  | some q => some q
  | none => o' f args H n
/-- Data in, data out. -/
def ofData (o : FuncId → List Value → Option Value) : FuncId → List Value → Tr → Nat → Option Rv := fun f args H n =>
  match o f args with
  | some v => some ⟨v, H, n⟩
  | none => none
section
variable {P : Program} {n0 : Nat} {w0 : World} {call : Caller} {H : Tr} {n : Nat} {η : Env} {W : World}
theorem orcG_ok (hc : CallOk P n0 w0 call) {o : FuncId → List Value → Tr → Nat → Option Rv} (ho : OrcOk P n0 w0 o) : CallOk P n0 w0 (orcG o call) := by
  intro f args H n outs h η W hI hw
  unfold orcG at h
  split at h
  · rename_i q hq
    simp only [Option.some.injEq] at h; subst h
    refine (ho f args H n q hq η W hI hw).mono fun e W' h => ?_
    obtain ⟨η', h1, h2, h3, h4, h5⟩ := h
    exact ⟨q, List.mem_singleton_self _, η', h1, h2, h3, h4, h5⟩
  · exact hc f args H n outs h η W hI hw
theorem orElse2_ok {o o' : FuncId → List Value → Tr → Nat → Option Rv} (h1 : OrcOk P n0 w0 o) (h2 : OrcOk P n0 w0 o') : OrcOk P n0 w0 (orElse2 o o') := by
  intro f args H n q h
  unfold orElse2 at h
  split at h
  · rename_i q' hq
    simp only [Option.some.injEq] at h; subst h
    exact h1 f args H n _ hq
  · exact h2 f args H n q h
theorem ofData_ok {o : FuncId → List Value → Option Value}
    (ho : ∀ f args v, o f args = some v → (∀ η, args.map (rV η) = args) ∧ (∀ η, rV η v = v) ∧ ∀ W : World, n0 ≤ W.heap.size → Calls P f args.toArray W fun e W' => e = .returned v ∧ Below W.heap.size W W') : OrcOk P n0 w0 (ofData o) := by
  intro f args H n q h η W hI hw
  unfold ofData at h
  split at h
  · rename_i v hv
    obtain ⟨h1, h2, h3⟩ := ho f args v hv
    simp only [Option.some.injEq] at h; subst h
    rw [h1 η]
    refine (h3 W (Nat.le_trans hI.old hI.bel.size)).mono fun e W' h => ?_
    obtain ⟨rfl, hb⟩ := h
    exact ⟨η, .refl _ _, Nat.le_refl _, hI.below hb, fun _ _ _ => by rw [h2, h2], by rw [h2]⟩
  · cases h
theorem Inv.lay (h : Inv P n0 w0 H n η W) (hm : n < most) (g c : Nat) (x : AObj) {W' : World} (hb : Below W.heap.size W W') (hg : W.heap.size ≤ g) (hg' : g < W'.heap.size)
    (ho : OkObj P (η.put n g c) W' (n + 1) n x) : Inv P n0 w0 (Tr.set depth H n x) (n + 1) (η.put n g c) W' := by
  have h' := h.below hb
  have ha := η.put_agree n g c
  have hg2 : ∀ m, (Tr.set depth H n x).get m = if m = n then x else H.get m := fun m => get_set hm
  refine InvT.to ⟨h'.bel, Nat.le_succ_of_le h.n0n, h.old, fun i hi => ?_, ?_, ?_, ?_, ?_, ?_⟩
  · rw [(ha i (Nat.lt_of_lt_of_le hi h.n0n)).1]; exact h.fix i hi
  · intro i h1 h2
    by_cases e : i = n
    · subst e; rw [Env.put_blk]; exact Nat.le_trans h.bel.size hg
    · rw [(ha i (by omega)).1]; exact h.new i h1 (by omega)
  · intro i hi
    by_cases e : i = n
    · subst e; rw [Env.put_blk]; exact hg'
    · rw [(ha i (by omega)).1]; have := h'.lt i (by omega); omega
  · intro i j hi hj li lj e
    rw [hg2] at li lj
    by_cases ei : i = n <;> by_cases ej : j = n
    · omega
    · subst ei
      rw [Env.put_blk, (ha j (by omega)).1] at e
      have := h.lt j (by omega); omega
    · subst ej
      rw [Env.put_blk, (ha i (by omega)).1] at e
      have := h.lt i (by omega); omega
    · rw [if_neg ei] at li; rw [if_neg ej] at lj
      rw [(ha i (by omega)).1, (ha j (by omega)).1] at e
      exact h.inj i j (by omega) (by omega) li lj e
  · intro i hi
    rw [hg2]
    split
    · rename_i e; subst e; exact ho
    · exact (h'.at' i (by omega)).agree ha (by omega) (Nat.le_succ n)
  · intro i hi
    rw [hg2, if_neg (by omega)]
    exact h.beyond i (by omega)
theorem evFnG_sound (hm : P.follows .mixedOrders = true) {F : Nat} {o : FuncId → List Value → Tr → Nat → Option Rv} (ho : OrcOk P n0 w0 o) : ∀ k, CallOk P n0 w0 (evFnG P n0 F o k)
  | 0 => fun f args H n outs h => by simp [evFnG] at h
  | k + 1 => fun f args H n outs h η W hI hw => by
    unfold evFnG at h
    split at h
    case h_2 => simp at h
    rename_i fn hfn
    split at h
    case h_2 => simp at h
    rename_i c hc
    dsimp only at h
    split at h
    case isFalse => simp at h
    rename_i hsmall
    cases h1 : evCode P n0 (orcG o (evFnG P n0 F o k)) F c ⟨tvOf args 0 .nil, max args.length fn.ntmps, H, n⟩ with
    | none => rw [h1] at h; simp at h
    | some o1 =>
      rw [h1] at h
      dsimp only at h
      have hget := tvOf_get args 0 .nil (by omega)
      have hgetw : ∀ i, Wf n ((tvOf args 0 .nil).get i) := fun i => by
        rw [hget i]
        split
        · rename_i hi
          rw [List.getD_eq_getElem?_getD, List.getElem?_eq_getElem (by omega)]
          exact hw _ (List.getElem_mem _)
        · exact Wf.undef n
      have hF : Fr η ⟨tvOf args 0 .nil, max args.length fn.ntmps, H, n⟩ { tmps := (args.map (rV η)).toArray ++ Array.replicate (fn.ntmps - (args.map (rV η)).toArray.size) undef, defers := [] } := by
        refine ⟨hsmall, rfl, by simp; omega, fun i hi => ?_, hgetw, fun i hi => ?_⟩
        · dsimp only at hi ⊢
          rw [hget i]
          by_cases hlt : i < args.length
          · rw [if_pos (by omega), Array.getElem?_append_left (by simpa using hlt)]
            simp [hlt]
          · rw [if_neg (by omega), Array.getElem?_append_right (by simp; omega)]
            have : i - (args.map (rV η)).toArray.size < fn.ntmps - (args.map (rV η)).toArray.size := by simp; omega
            rw [Array.getElem?_replicate, if_pos this]
            show some undef = some (rV η undef)
            rw [rV_undef]
        · dsimp only at hi ⊢
          rw [hget i, if_neg (by omega)]; rfl
      refine calls_of_wp hfn hc (wp_mono (evCode_sound hm (orcG_ok (evFnG_sound hm ho k) ho) c _ o1 η _ W h1 hI hF) fun e a' W' hp => ?_)
      obtain ⟨p, hp, η', ha, hn, hI', hF', rfl⟩ := hp
      obtain ⟨x1, s'⟩ := p
      obtain ⟨u, hu, hsub⟩ := bindL_mem h _ hp
      have fin : ∀ (v : Value), evResults P fn s' = some v → (⟨v, s'.H, s'.n⟩ : Rv) ∈ outs → a'.defers = [] ∧ ∃ v, (results fn a'.tmps).run P W' = .ok v W' ∧
          (∃ q ∈ outs, ∃ η', Agree n η η' ∧ n ≤ q.n ∧ Inv P n0 w0 q.H q.n η' W' ∧ Wf q.n q.v ∧ Ending.returned v = .returned (rV η' q.v)) := by
        intro v hv hmem
        obtain ⟨r1, r2⟩ := evResults_sound hI' hF' hv
        exact ⟨hF'.defers, _, r2, _, hmem, η', ha, hn, hI', r1, rfl⟩
      cases x1 with
      | exit id => simp at hu
      | normal =>
        dsimp only at hu
        cases hv : evResults P fn s' with
        | none => rw [hv] at hu; simp at hu
        | some v =>
          rw [hv] at hu; simp only [Option.some.injEq] at hu; subst hu
          exact fin v hv (hsub _ (List.mem_singleton_self _))
      | ret =>
        dsimp only at hu
        cases hv : evResults P fn s' with
        | none => rw [hv] at hu; simp at hu
        | some v =>
          rw [hv] at hu; simp only [Option.some.injEq] at hu; subst hu
          exact fin v hv (hsub _ (List.mem_singleton_self _))

/-! ### A closed call -/
end
end Go.Proofs.YtjcnpjidkimldaaGreatDoor.Ev
