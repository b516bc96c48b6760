/-
  A closed call evaluated: append and copy.
-/
import Derived.Test.YtoanbjnhoggpjaaEvB
namespace Go.Proofs.Ytoanbjnhoggpjaa.Ev
set_option linter.unusedSimpArgs false
set_option linter.unusedVariables false
set_option maxRecDepth 100000
open Go Go.RowKit

section
variable {P : Program} {n0 : Nat} {w0 : World} {H : Tr} {n : Nat} {η : Env} {W : World}

/-- A block goes on under a new number; its old number is of no account any more. -/
theorem Inv.move (h : Inv P n0 w0 H n η W) (hm : n < most) {b : Nat} (h0 : n0 ≤ b) (hl : live (H.get b)) (c : Nat) (x : AObj) {W' : World}
    (hw : W'.os = W.os ∧ W'.tape = W.tape ∧ W'.output = W.output ∧ W'.heap.size = W.heap.size) (hk : ∀ k, k ≠ η.blk b → W'.heap[k]? = W.heap[k]?)
    (ho : OkObj P (η.put n (η.blk b) c) W' (n + 1) n x) : Inv P n0 w0 (Tr.set depth (Tr.set depth H b .dead) n x) (n + 1) (η.put n (η.blk b) c) W' := by
  have hb := h.lt_of_live hl
  have ha := η.put_agree n (η.blk b) c
  have hg : ∀ m, (Tr.set depth (Tr.set depth H b .dead) n x).get m = if m = n then x else if m = b then .dead else H.get m := fun m => by
    rw [get_set hm, get_set (by omega)]
  obtain ⟨e1, e2, e3, e4⟩ := hw
  have hbb := h.new b h0 hb
  refine InvT.to ⟨h.bel.trans ⟨e1, e2, e3, by omega, fun k hk' => hk k (by omega)⟩, Nat.le_succ_of_le h.n0n, h.old, fun i hi => ?_, ?_, ?_, ?_, ?_, ?_⟩
  · rw [(ha i (Nat.lt_of_lt_of_le hi h.n0n)).1]; exact h.fix i hi
  · intro i h1 h2
    by_cases e : i = n
    · subst e; rw [Env.put_blk]; exact hbb
    · rw [(ha i (by omega)).1]; exact h.new i h1 (by omega)
  · intro i hi
    rw [e4]
    by_cases e : i = n
    · subst e; rw [Env.put_blk]; exact h.lt b hb
    · rw [(ha i (by omega)).1]; exact h.lt i (by omega)
  · intro i j hi hj li lj e
    rw [hg] at li lj
    by_cases ei : i = n <;> by_cases ej : j = n
    · omega
    · subst ei
      rw [if_neg ej] at lj
      split at lj
      · exact lj.elim
      · rename_i ejb
        rw [Env.put_blk, (ha j (by omega)).1] at e
        exact absurd (h.inj b j hb (by omega) hl lj e).symm ejb
    · subst ej
      rw [if_neg ei] at li
      split at li
      · exact li.elim
      · rename_i eib
        rw [Env.put_blk, (ha i (by omega)).1] at e
        exact absurd (h.inj i b (by omega) hb li hl e) eib
    · rw [if_neg ei] at li; rw [if_neg ej] at lj
      split at li
      · exact li.elim
      · split at lj
        · exact lj.elim
        · rw [(ha i (by omega)).1, (ha j (by omega)).1] at e
          exact h.inj i j (by omega) (by omega) li lj e
  · intro i hi
    rw [hg]
    split
    · rename_i e; subst e; exact ho
    · rename_i e
      split
      · trivial
      · rename_i eb
        cases hx : H.get i with
        | dead => trivial
        | cells cs el op =>
          rw [← hx]
          exact ((h.at' i (by omega)).world (hk _ fun hh => eb (h.inj i b (by omega) hb (by rw [hx]; trivial) hl hh))).agree ha (by omega) (Nat.le_succ n)
        | ro cs =>
          rw [← hx]
          exact ((h.at' i (by omega)).world (hk _ fun hh => eb (h.inj i b (by omega) hb (by rw [hx]; trivial) hl hh))).agree ha (by omega) (Nat.le_succ n)
        | obj o =>
          rw [← hx]
          exact ((h.at' i (by omega)).world (hk _ fun hh => eb (h.inj i b (by omega) hb (by rw [hx]; trivial) hl hh))).agree ha (by omega) (Nat.le_succ n)
  · intro i hi
    rw [hg, if_neg (by omega), if_neg (by omega)]
    exact h.beyond i (by omega)

def evLen : Value → Option Nat
  | .slice _ k _ => some k
  | .string s => some s.size
  | _ => none
theorem len_sound {x : Value} {k : Nat} (he : evLen x = some k) (W : World) : (Builtin.lenOf (rV η x)).run P W = .ok k W := by
  unfold evLen at he
  split at he
  · rename_i a k' c
    simp only [Option.some.injEq] at he; subst he
    cases a <;> simp [Builtin.lenOf]
  · simp only [Option.some.injEq] at he; subst he; simp [Builtin.lenOf]
  · simp at he
def evFirst (H : Tr) (size k : Nat) (x : Value) : Option (List Value) :=
  match x with
  | .slice (some ⟨b, o, none⟩) _ _ => match H.get b with
    | .cells cs _ _ => readCells cs o (k * size)
    | _ => none
  | .slice none _ _ => some []
  | .string s => some ((s.extract 0 k).data.toList.map fun b => .int .u8 b.toNat)
  | _ => none
theorem first_sound (h : Inv P n0 w0 H n η W) {x : Value} {size k : Nat} {l : List Value} (he : evFirst H size k x = some l) :
    WfL n l ∧ (Builtin.firstCells size k (rV η x)).run P W = .ok (l.map (rV η)).toArray W := by
  unfold evFirst at he
  split at he
  · rename_i b o len c
    split at he
    · rename_i cs e op hb
      obtain ⟨h1, h2⟩ := readCells_spec he
      obtain ⟨h3, h4⟩ := h.range hb h2
      refine ⟨h4, ?_⟩
      have := run_loadCells_list (P := P) W ⟨η.blk b, o, none⟩ (l.map (rV η)) (fun j v hv => by rw [Addr.add_mid]; exact h3 j v hv)
      rw [List.length_map, h1] at this
      simp [Builtin.firstCells, rA_mk, this]
    · simp at he
  · simp only [Option.some.injEq] at he; subst he
    exact ⟨fun v hv => by simp at hv, by simp [Builtin.firstCells]⟩
  · rename_i s
    simp only [Option.some.injEq] at he; subst he
    refine ⟨fun v hv => ?_, ?_⟩
    · simp only [List.mem_map] at hv
      obtain ⟨b, -, rfl⟩ := hv
      exact Wf.int _ _ _
    · simp only [rV_string, Builtin.firstCells, Sem.run_pure, List.map_map]
      congr 1
      apply Array.ext'
      simp [Function.comp_def]
  · simp at he

def evAppend (P : Program) (n0 : Nat) (H : Tr) (n : Nat) (ts : List TypeId) (args : List Value) : Option Res :=
  match ts, args with
  | [st, xt], [s, x] =>
    match P.underlying st, P.underlying xt, s, evLen x with
    | some (.slice elem), some (.int _), _, _ => none
    | some (.slice elem), some _, .slice base sLen sCap, some k =>
      match P.info? elem, zeroIn P n0 elem with
      | some i, some z =>
        match evFirst H i.size k x, evFirst H i.size sLen s with
        | some new, some old =>
          if decide (new.length = k * i.size) && decide (old.length = sLen * i.size) && decide (z.cells.size = i.size) && decide (0 < i.size) && decide (sLen + k < 2 ^ 30) && new.all isOne && decide (n < most) then
            if sCap < 2 ^ 70 then
              if sLen + k ≤ sCap then
                match base with
                | some ⟨b, o, none⟩ => match H.get b with
                  | .cells cs e op => if decide (o + sLen * i.size + new.length ≤ cs.length) && decide (n0 ≤ b) then
                      some ⟨.val (.slice base (sLen + k) sCap), Tr.set depth H b (.cells (putCells cs (o + sLen * i.size) new) e op), n⟩ else none
                  | _ => none
                | some _ => none
                | none => if decide (new.length = 0) then some ⟨.val (.slice none (sLen + k) sCap), H, n⟩ else none
              else if Builtin.nextslicecap (sLen + k) sCap * i.bytes ≤ 2 ^ 48 then
                some ⟨.val (.slice (some ⟨n, 0, none⟩) (sLen + k) roomy), Tr.set depth H n (.cells (old ++ new) elem true), n + 1⟩
              else none
            else match base with
              | some ⟨b, 0, none⟩ => match H.get b with
                | .cells cs e true => if decide (n0 ≤ b) && decide (e = elem) && decide (sCap = roomy) && decide (sLen * i.size ≤ cs.length) && decide (i.bytes ≤ 2 ^ 16) then
                    some ⟨.val (.slice (some ⟨n, 0, none⟩) (sLen + k) roomy), Tr.set depth (Tr.set depth H b .dead) n (.cells (old ++ new) elem true), n + 1⟩
                  else none
                | _ => none
              | _ => none
          else none
        | _, _ => none
      | _, _ => none
    | _, _, _, _ => none
  | _, _ => none

theorem growBy_le (N : Nat) : ∀ (r c : Nat), c ≤ 2 * N + 768 → Builtin.growBy N r c ≤ 2 * N + 768
  | 0, c, h => h
  | r + 1, c, h => by
    unfold Builtin.growBy
    split
    · exact h
    · exact growBy_le N r _ (by omega)
theorem next_le {N c : Nat} (h : c < N) : Builtin.nextslicecap N c ≤ 2 * N + 768 := by
  unfold Builtin.nextslicecap
  split
  · omega
  · split
    · omega
    · exact growBy_le N 4 c (by omega)
theorem notInt {α : Type} {d : TypeDesc} (hd : ∀ k, d ≠ .int k) : (d matches .int _) = false := by
  cases d <;> first | rfl | exact absurd rfl (hd _)
theorem run_choose_cap (need old : Nat) (e : TypeId) (w : World) : (choose (.appendCap need old e)).run P w = .ok ((Question.appendCap need old e).cut (w.tape w.drawn (.appendCap need old e))) w.drew := rfl
theorem run_askRoom (b : Nat) (w : World) : (askRoom b).run P w = .ok () w := by
  unfold askRoom; split <;> rfl
theorem append_grow {st xt ty elem : TypeId} {dx : TypeDesc} {i : TypeInfo} {z : Value} {base : Option Addr} {sLen cap k : Nat} {x : Value} {old new : Array Value}
    (hu : P.underlying st = some (.slice elem)) (hx : P.underlying xt = some dx) (hd : ∀ k, dx ≠ .int k) (hi : P.info? elem = some i)
    (hz : ∀ w, (zeroValue elem).run P w = .ok z w) (hl : ∀ w, (Builtin.lenOf x).run P w = .ok k w) (hneed : cap < sLen + k) (hsm : sLen + k < 2 ^ 30)
    (hnext : Builtin.nextslicecap (sLen + k) cap * i.bytes ≤ 2 ^ 48) (hb : 0 < i.bytes ∨ True)
    (hold : (Builtin.firstCells i.size sLen (.slice base sLen cap)).run P W.drew = .ok old W.drew) (hnew : (Builtin.firstCells i.size k x).run P W.drew = .ok new W.drew) :
    ∃ c, sLen + k ≤ c ∧ (Builtin.append_ #[st, xt] ty #[.slice base sLen cap, x]).run P W =
      .ok (.slice (some ⟨W.heap.size, 0, none⟩) (sLen + k) c) (W.drew.alloc (.cells (old ++ new ++ Builtin.zeroCells z.cells (c - (sLen + k))) elem)) := by
  refine ⟨(Question.appendCap (sLen + k) cap elem).cut (W.tape W.drawn (.appendCap (sLen + k) cap elem)), by simp only [Question.cut]; omega, ?_⟩
  have hti : ∀ w, (typeInfo elem).run P w = .ok i w := fun w => by simp [typeInfo, hi]
  have hsz : ∀ w, (Go.sizeOf elem).run P w = .ok i.size w := run_sizeOf (by simp [hi])
  have hmx : ¬ (((sLen + k : Nat) : Int) > IntKind.i64.max) := by
    have : IntKind.i64.max = 9223372036854775807 := rfl
    rw [this]; omega
  simp only [Builtin.append_, List.getElem?_toArray, List.getElem?_cons_zero, List.getElem?_cons_succ]
  simp only [Sem.run_bind, run_underlying hu, Result.andThen_ok, hsz, run_underlying hx, Sem.run_pure, notInt hd, Bool.false_eq_true, if_false, hl]
  rw [if_neg (by omega)]
  simp only [Sem.run_bind, hti, Result.andThen_ok, hmx, false_and, if_false]
  rw [if_neg (by omega)]
  simp only [Sem.run_bind, Sem.run_pure, run_choose_cap, hti, run_askRoom, Result.andThen_ok, hold, Bool.not_false, if_true, hnew, hz, run_newRow]
  rfl

theorem append_fits {st xt ty elem : TypeId} {dx : TypeDesc} {i : TypeInfo} {b o sLen cap k : Nat} {x : Value} {new : List Value}
    (hu : P.underlying st = some (.slice elem)) (hx : P.underlying xt = some dx) (hd : ∀ k, dx ≠ .int k) (hi : P.info? elem = some i)
    (hl : ∀ w, (Builtin.lenOf x).run P w = .ok k w) (hneed : sLen + k ≤ cap)
    (hnew : (Builtin.firstCells i.size k x).run P W = .ok new.toArray W) (ht : W.there b (o + sLen * i.size) new.length) (h1 : ∀ v ∈ new, v.oneCell' = true) :
    (Builtin.append_ #[st, xt] ty #[.slice (some ⟨b, o, none⟩) sLen cap, x]).run P W =
      .ok (.slice (some ⟨b, o, none⟩) (sLen + k) cap) (W.setCells b (o + sLen * i.size) new) := by
  have hsz : ∀ w, (Go.sizeOf elem).run P w = .ok i.size w := run_sizeOf (by simp [hi])
  have hst := run_storeCells_cells (P := P) b (o + sLen * i.size) new 0 W (fun j hj => by simpa using (ht j hj).1) (fun j hj => by simpa using (ht j hj).2) h1
  simp only [Nat.add_zero] at hst
  simp only [Builtin.append_, List.getElem?_toArray, List.getElem?_cons_zero, List.getElem?_cons_succ]
  simp only [Sem.run_bind, run_underlying hu, Result.andThen_ok, hsz, run_underlying hx, Sem.run_pure, notInt hd, Bool.false_eq_true, if_false, hl]
  rw [if_pos hneed]
  simp only [Sem.run_bind, Bool.not_false, if_true, hnew, Result.andThen_ok, Addr.add_mid, hst, Sem.run_pure]
theorem append_fits_nil {st xt ty elem : TypeId} {dx : TypeDesc} {i : TypeInfo} {sLen cap k : Nat} {x : Value} {new : Array Value}
    (hu : P.underlying st = some (.slice elem)) (hx : P.underlying xt = some dx) (hd : ∀ k, dx ≠ .int k) (hi : P.info? elem = some i)
    (hl : ∀ w, (Builtin.lenOf x).run P w = .ok k w) (hneed : sLen + k ≤ cap)
    (hnew : (Builtin.firstCells i.size k x).run P W = .ok new W) :
    (Builtin.append_ #[st, xt] ty #[.slice none sLen cap, x]).run P W = .ok (.slice none (sLen + k) cap) W := by
  have hsz : ∀ w, (Go.sizeOf elem).run P w = .ok i.size w := run_sizeOf (by simp [hi])
  simp only [Builtin.append_, List.getElem?_toArray, List.getElem?_cons_zero, List.getElem?_cons_succ]
  simp only [Sem.run_bind, run_underlying hu, Result.andThen_ok, hsz, run_underlying hx, Sem.run_pure, notInt hd, Bool.false_eq_true, if_false, hl]
  rw [if_pos hneed]
  simp only [Sem.run_bind, Bool.not_false, if_true, hnew, Result.andThen_ok, Sem.run_pure]
theorem zeroCells_length (z : Array Value) (k : Nat) : (Builtin.zeroCells z k).toList.length = k * z.size := by simp [Builtin.zeroCells]
theorem cellsOf_info {elem : TypeId} {i : TypeInfo} (hi : P.info? elem = some i) : P.cellsOf elem = i.size := by simp [Program.cellsOf, hi]

/-- The block that an append makes. -/
theorem Inv.grown (h : Inv P n0 w0 H n η W) (hm : n < most) {elem : TypeId} {i : TypeInfo} (hi : P.info? elem = some i) {l : List Value} (hw : WfL n l) {z : Array Value} {c need : Nat}
    (hz : z.size = i.size) (hl : l.length = need * i.size) (hc : need ≤ c) :
    Inv P n0 w0 (Tr.set depth H n (.cells l elem true)) (n + 1) (η.put n W.heap.size c) (W.drew.alloc (.cells ((l.map (rV η)).toArray ++ Builtin.zeroCells z (c - need)) elem)) := by
  refine (h.drew).grow hm c _ _ fun η' ha hb hc' => ⟨hw.mono (Nat.le_succ n), (Builtin.zeroCells z (c - need)).toList, (0, 0), ?_, .inl rfl, fun hh => by simp at hh, fun _ => ?_⟩
  · rw [hb, hw.map ha]
    show (W.drew.heap.push _)[W.drew.heap.size]? = _
    rw [Array.getElem?_push_size]
    congr 2
    apply Array.ext'; simp
  · rw [zeroCells_length, hz, hl, hc', cellsOf_info hi, ← Nat.add_mul]
    congr 1; omega

theorem Wf.slice_len {a : Option Addr} {l l' c : Nat} (h : Wf n (.slice a l c)) : Wf n (.slice a l' c) := by
  intro η η' ha
  have := h η η' ha
  cases a with
  | none => simp
  | some a => simp at this; simp [this]
theorem append_sound (h : Inv P n0 w0 H n η W) {ts : List TypeId} {ty : TypeId} {args : List Value} {r : Res} (hw : WfL n args) (he : evAppend P n0 H n ts args = some r) :
    Runs P n0 w0 η n W (do pure (.value (← Builtin.append_ ts.toArray ty (args.map (rV η)).toArray))) r := by
  unfold evAppend at he
  split at he
  case h_2 => simp at he
  rename_i st xt s x
  split at he
  case h_1 => simp at he
  case h_3 => simp at he
  rename_i elem dx base sLen sCap k hd hu hx hlen
  have hd' : ∀ k, dx ≠ .int k := fun k e => hd k e
  split at he
  case h_2 => simp at he
  rename_i i z hi hz
  obtain ⟨z1, z2, z3⟩ := zeroIn_spec h.toInq hz
  split at he
  case h_2 => simp at he
  rename_i new old hnew hold
  split at he
  case isFalse => simp at he
  rename_i hc
  simp only [Bool.and_eq_true, decide_eq_true_eq, List.all_eq_true] at hc
  obtain ⟨⟨⟨⟨⟨⟨c1, c2⟩, c3⟩, c4⟩, c5⟩, c6⟩, c7⟩ := hc
  have hl := fun w => len_sound (P := P) (η := η) hlen w
  have hwx : Wf n x := hw x (by simp)
  obtain ⟨wn, fn⟩ := first_sound h hnew
  obtain ⟨wo, fo⟩ := first_sound h hold
  obtain ⟨-, fn'⟩ := first_sound h.drew hnew
  obtain ⟨-, fo'⟩ := first_sound h.drew hold
  have hone : ∀ v ∈ new.map (rV η), v.oneCell' = true := fun v hv => by
    simp only [List.mem_map] at hv
    obtain ⟨u, hu', rfl⟩ := hv
    exact isOne_spec (c6 u hu') η
  have wno : WfL n (old ++ new) := fun v hv => (List.mem_append.1 hv).elim (wo v) (wn v)
  have hcell : (do pure (Next.value (← Builtin.append_ [st, xt].toArray ty ([Value.slice base sLen sCap, x].map (rV η)).toArray)) : Sem Next).run P W =
      ((Builtin.append_ #[st, xt] ty #[rV η (.slice base sLen sCap), rV η x]).run P W).andThen fun a w' => .ok (.value a) w' := by
    simp only [Sem.run_bind, List.map_cons, List.map_nil, Sem.run_pure]
  have hlen' : (old ++ new).length = (sLen + k) * i.size := by rw [List.length_append, c1, c2, Nat.add_mul]
  have hws : Wf n (.slice base sLen sCap) := hw _ List.mem_cons_self
  have grow : ∀ (cap : Nat) (base' : Option Addr), rV η (.slice base sLen sCap) = .slice base' sLen cap → cap < sLen + k → Builtin.nextslicecap (sLen + k) cap * i.bytes ≤ 2 ^ 48 →
      ∃ c, sLen + k ≤ c ∧
        (Builtin.append_ #[st, xt] ty #[rV η (.slice base sLen sCap), rV η x]).run P W = .ok (.slice (some ⟨W.heap.size, 0, none⟩) (sLen + k) c) (W.drew.alloc (.cells (((old ++ new).map (rV η)).toArray ++ Builtin.zeroCells z.cells (c - (sLen + k))) elem)) := by
    intro cap base' hs hcap hnext
    rw [hs] at fo' ⊢
    obtain ⟨c, hcc, hrun⟩ := append_grow (P := P) (W := W) (ty := ty) (base := base') hu hx hd' hi z1 hl hcap c5 hnext (.inr trivial) fo' fn'
    refine ⟨c, hcc, ?_⟩
    rw [hrun]
    simp
  split at he
  · rename_i hknown
    have hs : rV η (.slice base sLen sCap) = .slice (base.map (rA η)) sLen sCap := by
      cases base with
      | none => simp
      | some a => simp [rCap_lt hknown]
    split at he
    · rename_i hfit
      split at he
      · rename_i b o
        split at he
        · rename_i cs e op hb
          split at he
          · rename_i hh
            simp only [Bool.and_eq_true, decide_eq_true_eq] at hh
            simp only [Option.some.injEq] at he; subst he
            have hp := h.put c7 hb hh.2 hh.1 wn
            refine ⟨η, _, .refl _ _, Nat.le_refl _, hp, ?_, ?_⟩
            · exact hws.slice_len
            · rw [hcell, hs]
              have := append_fits (P := P) (W := W) (ty := ty) (b := η.blk b) (o := o) (sLen := sLen) (new := new.map (rV η)) hu hx hd' hi hl hfit fn (by
                rw [List.length_map]; exact h.there hb hh.1) hone
              simp only [Option.map_some, rA_mk, this, Result.andThen_ok, rV_ssome, rCap_lt hknown]
          · simp at he
        · simp at he
      · simp at he
      · split at he
        · simp only [Option.some.injEq] at he; subst he
          refine Runs.same h (fun _ _ _ => by simp) ?_
          rw [hcell, hs]
          have := append_fits_nil (P := P) (W := W) (ty := ty) (sLen := sLen) hu hx hd' hi hl hfit fn
          simp only [Option.map_none, this, Result.andThen_ok, rV_snone]
        · simp at he
    · rename_i hfit
      split at he
      · rename_i hnext
        simp only [Option.some.injEq] at he; subst he
        obtain ⟨c, hcc, hrun⟩ := grow sCap _ hs (by omega) hnext
        refine ⟨_, _, Env.put_agree _ _ _ _, Nat.le_succ n, h.grown c7 hi wno c3 hlen' hcc, Wf.slice (Nat.lt_succ_self n), ?_⟩
        rw [hcell, hrun]
        simp [rA_mk, rCap, roomy]
      · simp at he
  · rename_i hunk
    split at he
    case h_2 => simp at he
    rename_i b
    split at he
    case h_2 => simp at he
    rename_i cs e hb
    split at he
    case isFalse => simp at he
    rename_i hh
    simp only [Bool.and_eq_true, decide_eq_true_eq] at hh
    obtain ⟨⟨⟨⟨d1, d2⟩, d3⟩, d4⟩, d5⟩ := hh
    subst d2
    simp only [Option.some.injEq] at he; subst he
    have hlt := h.lt_of_live (b := b) (by rw [hb]; trivial)
    have hat := h.at' b hlt
    rw [hb] at hat
    obtain ⟨hwc, ex, fz, g1, g2, -, g4⟩ := hat
    have g4' := g4 rfl
    rw [cellsOf_info hi] at g4'
    have hs : rV η (.slice (some ⟨b, 0, none⟩) sLen sCap) = .slice (some ⟨η.blk b, 0, none⟩) sLen (η.cap b) := by
      simp [rA_mk, rCap, d3, roomy]
    by_cases hfit : sLen + k ≤ η.cap b
    · -- in place
      have hroom : sLen * i.size + new.length ≤ cs.length + ex.length := by
        rw [g4', c1, ← Nat.add_mul]; exact Nat.mul_le_mul_right _ hfit
      have hthere : W.there (η.blk b) (0 + sLen * i.size) (new.map (rV η)).length := fun j hj => by
        simp only [List.length_map, Nat.zero_add] at hj ⊢
        have hlt' : sLen * i.size + j < (cs.map (rV η) ++ ex).length := by simp; omega
        constructor
        · simp only [World.cell?, g1, Option.isSome_none, Bool.false_eq_true, if_false, List.getElem?_toArray, List.getElem?_eq_getElem hlt']
          rfl
        · simp only [World.frozen?, g1]
          simp
          omega
      have hrun := append_fits (P := P) (W := W) (ty := ty) (b := η.blk b) (o := 0) (sLen := sLen) (new := new.map (rV η)) hu hx hd' hi hl hfit fn hthere hone
      have hold' : old = cs.take (sLen * i.size) := by
        simp only [evFirst, hb, readCells, List.drop_zero] at hold
        split at hold
        · simp only [Option.some.injEq] at hold; exact hold.symm
        · simp at hold
      refine ⟨_, _, Env.put_agree η n (η.blk b) (η.cap b), Nat.le_succ n, h.move c7 d1 (by rw [hb]; trivial) (η.cap b) _ (setCells_frame (η.blk b) (new.map (rV η)) (0 + sLen * i.size) W) (fun k hk => setCells_other _ _ _ _ k hk) ?_,
        Wf.slice (Nat.lt_succ_self n), ?_⟩
      · refine ⟨wno.mono (Nat.le_succ n), (cs.map (rV η) ++ ex).drop (sLen * i.size + new.length), fz, ?_, ?_, fun hh => by simp at hh, fun _ => ?_⟩
        · rw [Env.put_blk, wno.map (Env.put_agree η n (η.blk b) (η.cap b)), setCells_block _ e fz (new.map (rV η)) (0 + sLen * i.size) W _ g1 (by simp; omega)]
          congr 3
          unfold putCells
          rw [hold', List.map_append, List.map_take, Nat.zero_add, List.length_map, List.take_append_of_le_length (by simpa using d4)]
        · refine g2.imp (fun h => h) fun h => ?_
          simp only [List.length_append, List.length_drop, List.length_map, c2]
          omega
        · simp only [List.length_append, List.length_drop, List.length_map, c2, Env.put_cap, cellsOf_info hi]
          omega
      · rw [hcell, hs, hrun]
        simp [rA_mk, rCap, roomy]
    · -- a new block
      have hnext : Builtin.nextslicecap (sLen + k) (η.cap b) * i.bytes ≤ 2 ^ 48 := by
        have := next_le (N := sLen + k) (c := η.cap b) (by omega)
        calc _ ≤ 2 ^ 32 * 2 ^ 16 := Nat.mul_le_mul (by omega) d5
          _ = 2 ^ 48 := by decide
      obtain ⟨c, hcc, hrun⟩ := grow (η.cap b) _ hs (by omega) hnext
      refine ⟨_, _, Env.put_agree η n W.heap.size c, Nat.le_succ n, (h.kill hlt c7).grown c7 hi wno c3 hlen' hcc, Wf.slice (Nat.lt_succ_self n), ?_⟩
      rw [hcell, hrun]
      simp [rA_mk, rCap, roomy]
end
end Go.Proofs.Ytoanbjnhoggpjaa.Ev
