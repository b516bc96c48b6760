/-
  Laws for a drawn region that is gone through by hand: one operation after the other, the frame's slot by its number.
-/
import Derived.Test.YtjlaenkfjejbkaaMeR
import Derived.RegionTactic
import Derived.Deep.RegionHeld3
namespace Go.Proofs.Ytjlaenkfjejbkaa
set_option linter.unusedSimpArgs false
set_option linter.unusedVariables false
open Go.ChangeShapes Go.WideShapes Go.ChangeAt Go.RowKit

section
variable {P : Program}
theorem run_enter {f : FuncId} {fn : Func} {c : Code} (hf : P.funcs[f]? = some fn) (hname : (fn.name == "runtime.NumGoroutine") = false) (hb : fn.body = some c) (args : Array Value) (w : World) :
    (callFunc f args).run P w = .ok (.enter f args) w := by
  have h1 : fn.name ≠ "runtime.NumGoroutine" := by simpa using hname
  simp [callFunc, hf, h1, hb]
theorem wp_fn {o : Oper} {a : Act} {w : World} {K : Act → World → Prop} {Q : Exit → Act → World → Prop} {f : FuncId} {fn : Func} {c : Code} {xs : List Operand} {ts : Array TypeId} (hf : P.funcs[f]? = some fn) (hname : (fn.name == "runtime.NumGoroutine") = false) (hb : fn.body = some c)
    (ho : o.op = .call { callee := .value (.func f), args := xs.toArray, argTypes := ts }) (args : List Value) (ha : xs.map a.eval = args) {v : Value} {R : World → Prop} (hc : Calls P f args.toArray w fun e w' => e = .returned v ∧ R w')
    (h : ∀ w', R w' → K (a.put o.dst v) w') : o.wp P a w K Q := by
  have hr : (execOp a.eval o).run P w = .ok (.enter f args.toArray) w := by
    unfold execOp
    rw [ho]
    simp [resolve, Deferred.ofValue, Act.eval, invoke, ha, run_enter hf hname hb]
  unfold Oper.wp
  rw [hr]
  refine hc.mono ?_
  rintro e w' ⟨rfl, hR⟩
  exact h w' hR
variable {ops : Array Oper} {Q : Exit → Act → World → Prop} {md : Region.Mode} {fuel : Nat} {listed : Array Bool} {tm : Array Value} {df : List Deferred} {w : World}
theorem any1 {i d : Nat} {oi : Oper} (hr : Region.ready md ops listed = [i]) (hi : ops[i]? = some oi) (hd : oi.dst = some d) (hw : Region.wanted oi (yielded ops tm) = true)
    (h : ∀ K : Act → World → Prop, (∀ v w', wpAny P md ops Q fuel (listed.setIfInBounds i true) ⟨tm.setIfInBounds d v, df⟩ w' → K ((⟨tm, df⟩ : Act).put oi.dst v) w') → oi.wp P ⟨tm, df⟩ w K Q) : wpAny P md ops Q (fuel + 1) listed ⟨tm, df⟩ w :=
  wpAny_ready hr (by simp) (AllReady.cons hi (fun K hK => by
    rw [if_pos hw]
    exact h K (fun v w' hv => hK _ _ (by rw [hd]; exact hv))) AllReady.nil)
theorem any1s {i : Nat} {oi : Oper} (hr : Region.ready md ops listed = [i]) (hi : ops[i]? = some oi) (hd : oi.dst = none) (hw : Region.wanted oi (yielded ops tm) = true)
    (h : ∀ K : Act → World → Prop, (∀ v w', wpAny P md ops Q fuel (listed.setIfInBounds i true) ⟨tm, df⟩ w' → K ((⟨tm, df⟩ : Act).put oi.dst v) w') → oi.wp P ⟨tm, df⟩ w K Q) : wpAny P md ops Q (fuel + 1) listed ⟨tm, df⟩ w :=
  wpAny_ready hr (by simp) (AllReady.cons hi (fun K hK => by
    rw [if_pos hw]
    exact h K (fun v w' hv => hK _ _ (by rw [hd]; exact hv))) AllReady.nil)
theorem any2 {i j d e : Nat} {oi oj : Oper} (hr : Region.ready md ops listed = [i, j]) (hi : ops[i]? = some oi) (hd : oi.dst = some d) (hw : Region.wanted oi (yielded ops tm) = true) (hj : ops[j]? = some oj) (he : oj.dst = some e) (hw2 : Region.wanted oj (yielded ops tm) = true)
    (h : ∀ K : Act → World → Prop, (∀ v w', wpAny P md ops Q fuel (listed.setIfInBounds i true) ⟨tm.setIfInBounds d v, df⟩ w' → K ((⟨tm, df⟩ : Act).put oi.dst v) w') → oi.wp P ⟨tm, df⟩ w K Q)
    (h2 : ∀ K : Act → World → Prop, (∀ v w', wpAny P md ops Q fuel (listed.setIfInBounds j true) ⟨tm.setIfInBounds e v, df⟩ w' → K ((⟨tm, df⟩ : Act).put oj.dst v) w') → oj.wp P ⟨tm, df⟩ w K Q) : wpAny P md ops Q (fuel + 1) listed ⟨tm, df⟩ w :=
  wpAny_ready hr (by simp) (AllReady.cons hi (fun K hK => by
    rw [if_pos hw]
    exact h K (fun v w' hv => hK _ _ (by rw [hd]; exact hv))) (AllReady.cons hj (fun K hK => by
    rw [if_pos hw2]
    exact h2 K (fun v w' hv => hK _ _ (by rw [he]; exact hv))) AllReady.nil))
theorem take_a {i d : Nat} {oi : Oper} {v : Value} (hi : ops[i]? = some oi) (hd : oi.dst = some d)
    (hs : Region.noSelect ops = true) (hf : Region.free md ops listed i = true) (hr : (Region.ready md ops listed).contains i = true)
    (hQ : ∀ c a w, Q (.panic c) (a.put oi.dst v) w → Q (.panic c) a w) (hy : Yields P ops oi v ⟨tm, df⟩)
    (h : wpAny P md ops Q fuel (listed.setIfInBounds i true) ⟨tm.setIfInBounds d v, df⟩ w) : wpAny P md ops Q (fuel + 1) listed ⟨tm, df⟩ w := by
  refine wpAny_take hi hs hf hr hQ hy ?_
  rw [hd]
  exact h
variable {S : World → Prop} {l2 : Array Bool}
theorem take_h {i d : Nat} {oi : Oper} {v : Value} (l2 : Array Bool) (hi : ops[i]? = some oi) (hd : oi.dst = some d)
    (hs : Region.noSelect ops = true) (hf : Region.free md ops listed i = true) (hr : (Region.ready md ops listed).contains i = true) (hl : listed.setIfInBounds i true = l2)
    (hQ : ∀ c a w, Q (.panic c) (a.put oi.dst v) w → Q (.panic c) a w) (hS : S w) (hy : YieldsIf P ops S oi v ⟨tm, df⟩)
    (h : wpAnyH P md ops Q S fuel l2 ⟨tm.setIfInBounds d v, df⟩ w) : wpAnyH P md ops Q S (fuel + 1) listed ⟨tm, df⟩ w := by
  refine wpAnyH_take hi hs hf hr hQ hy hS ?_
  rw [hd, hl]
  exact h
theorem one_h {i d : Nat} {oi : Oper} (l2 : Array Bool) (hr : Region.ready md ops listed = [i]) (hi : ops[i]? = some oi) (hd : oi.dst = some d) (hw : Region.wanted oi (yielded ops tm) = true) (hl : listed.setIfInBounds i true = l2)
    (h : ∀ K : Act → World → Prop, (∀ v w', S w' → wpAnyH P md ops Q S fuel l2 ⟨tm.setIfInBounds d v, df⟩ w' → K ((⟨tm, df⟩ : Act).put oi.dst v) w') → oi.wp P ⟨tm, df⟩ w K Q) : wpAnyH P md ops Q S (fuel + 1) listed ⟨tm, df⟩ w :=
  wpAnyH_ready hr (by simp) (AllReadyH.cons hi (fun K hK => by
    rw [if_pos hw]
    exact h K (fun v w' hS hv => hK.out _ _ hS (fun _ => by rw [hd, hl]; exact hv))) AllReadyH.nil)
theorem yl_conv {oi : Oper} {a : Act} {A D : TypeId} {x : Operand} {u v : Value} (hw : Region.wanted oi (yielded ops a.tmps) = true) (ho : oi.op = .convert A D x) (hx : a.eval x = u) (hr : ∀ w, S w → (convert A D u).run P w = .ok v w) : YieldsIf P ops S oi v a :=
  .inl ⟨hw, fun w hS => by
    unfold execOp
    rw [ho]
    simp [hx, hr w hS]⟩
theorem yl_move {oi : Oper} {a : Act} {x : Operand} {v : Value} (hw : Region.wanted oi (yielded ops a.tmps) = true) (ho : oi.op = .move x) (hx : a.eval x = v) : Yields P ops oi v a :=
  .inl ⟨hw, fun w => by unfold execOp; rw [ho, ← hx]; rfl⟩
theorem yl_assign {oi : Oper} {a : Act} {x : Operand} {v : Value} (hw : Region.wanted oi (yielded ops a.tmps) = true) (ho : oi.op = .assign x) (hx : a.eval x = v) : Yields P ops oi v a :=
  .inl ⟨hw, fun w => by unfold execOp; rw [ho, ← hx]; rfl⟩
theorem yl_extract {oi : Oper} {a : Act} {x : Operand} {k : Nat} {vs : Array Value} {v : Value} (hw : Region.wanted oi (yielded ops a.tmps) = true) (ho : oi.op = .extract x k) (hx : a.eval x = .tuple vs) (hv : vs[k]? = some v) : Yields P ops oi v a :=
  .inl ⟨hw, fun w => by
    unfold execOp
    rw [ho]
    simp [hx, Instr.extract, hv]⟩
theorem yl_pick {oi : Oper} {a : Act} {c x y : Operand} {b : Bool} {v : Value} (hw : Region.wanted oi (yielded ops a.tmps) = true) (ho : oi.op = .pick c x y) (hc : a.eval c = .bool b) (hv : (if b = true then a.eval x else a.eval y) = v) : Yields P ops oi v a :=
  .inl ⟨hw, fun w => by
    unfold execOp
    rw [ho]
    cases b <;> simp_all [asBool]⟩
theorem yl_eql {oi : Oper} {a : Act} {x y : Operand} {T U : TypeId} {k : IntKind} {m n : Int} (hw : Region.wanted oi (yielded ops a.tmps) = true) (ho : oi.op = .binOp .eql T x y U) (hx : a.eval x = .int k m) (hy : a.eval y = .int k n) (hT : ∀ w, (binOp .eql T (.int k m) (.int k n)).run P w = .ok (.bool (m == n)) w) (hg : ∀ w, (eqGuard .eql T x y (.int k m) (.int k n)).run P w = .ok () w) : Yields P ops oi (.bool (m == n)) a :=
  .inl ⟨hw, fun w => by
    unfold execOp
    rw [ho]
    simp [hx, hy, hT, hg]⟩
theorem yl_bin {oi : Oper} {a : Act} {op : BinOp} {x y : Operand} {T U : TypeId} {u v r : Value} (hw : Region.wanted oi (yielded ops a.tmps) = true) (ho : oi.op = .binOp op T x y U) (hx : a.eval x = u) (hy : a.eval y = v) (hT : ∀ w, (binOp op T u v).run P w = .ok r w) (hg : ∀ w, (eqGuard op T x y u v).run P w = .ok () w) : Yields P ops oi r a :=
  .inl ⟨hw, fun w => by
    unfold execOp
    rw [ho]
    simp [hx, hy, hT, hg]⟩
theorem wp_conv {o : Oper} {a : Act} {w : World} {K : Act → World → Prop} {Q : Exit → Act → World → Prop} {S D : TypeId} {x : Operand} {u v : Value} (ho : o.op = .convert S D x) (hx : a.eval x = u) (hr : (convert S D u).run P w = .ok v w) (h : K (a.put o.dst v) w) : o.wp P a w K Q := by
  unfold Oper.wp
  have : (execOp a.eval o).run P w = .ok (.value v) w := by
    unfold execOp
    rw [ho]
    simp [hx, hr]
  rw [this]
  exact h
end

end Go.Proofs.Ytjlaenkfjejbkaa
