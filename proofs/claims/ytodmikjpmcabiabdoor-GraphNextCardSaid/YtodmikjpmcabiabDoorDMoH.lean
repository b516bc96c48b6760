/-
  Helpers of the laws of layer 4: a list of the call's own that is read as code, as maps; an append ahead of which the walk stands still.
-/
import Derived.Test.YtodmikjpmcabiabDoorDTwinP
import Derived.Test.YtodmikjpmcabiabDoorDShQ
import Derived.Deep.RegionLaw
namespace Go.Proofs.YtodmikjpmcabiabDoor
set_option linter.unusedSimpArgs false
set_option linter.unusedVariables false
set_option maxRecDepth 100000
open Go.ChangeShapes Go.WideShapes Go.ChangeAt Go.RowKit

theorem own_cell {w : World} {b : Nat} {e : TypeId} {k n g cap : Nat} {xs : List Value} (h : w.ownsRow b e k (.slice (some ⟨g, 0, none⟩) n cap) n xs) (j : Nat) (u : Value) (hu : xs[j]? = some u) : w.cell? ⟨g, j, none⟩ = some u := by
  have := h.cells (g := g) rfl j u hu
  rwa [add_none, Nat.zero_add] at this
theorem own_cd {w : World} {b n g cap : Nat} {c : List I5} (h : w.ownsRow b 45 5 (.slice (some ⟨g, 0, none⟩) n cap) n (c.flatMap cellsI)) (hn : c.length = n) (hok : CdOk c) (hl : n < 11728124029440) : CdSl w.heap.size w (some ⟨g, 0, none⟩) n c := by
  refine ⟨hn, hok, hl, .inr ⟨g, 0, rfl, (h.lt g rfl).2, fun j hj => ?_⟩⟩
  have hc : ∀ i, i < 5 → ∀ u, (cellsI (at5 c j))[i]? = some u → w.cell? ⟨g, j * 5 + i, none⟩ = some u := fun i hi u hu => own_cell h _ u (by rw [flat5_get c j (by omega) i hi]; exact hu)
  rw [Nat.zero_add]
  exact ⟨hc 0 (by omega) _ rfl, hc 1 (by omega) _ rfl, hc 2 (by omega) _ rfl, hc 3 (by omega) _ rfl, hc 4 (by omega) _ rfl⟩
theorem OwnL.kept {w0 w w' : World} {e : TypeId} {k g n cap : Nat} {xs : List Value} (h : OwnL w0 w e k g n cap xs) (hb : Below w.heap.size w w') : OwnL w0 w' e k g n cap xs := ⟨h.1.kept (grown_of_below hb) (.inr (by simp [Value.ownBlock])), h.2⟩

def MapC (W : World) (b : Nat) (kd ky vl cp : Int) : Prop := W.cell? ⟨b, 0, none⟩ = some (.int .i64 kd) ∧ W.cell? ⟨b, 1, none⟩ = some (.int .i64 ky) ∧ W.cell? ⟨b, 2, none⟩ = some (.int .i64 vl) ∧ W.cell? ⟨b, 3, none⟩ = some (.int .i64 cp)
theorem MapC.kept {W W' : World} {b : Nat} {kd ky vl cp : Int} (h : MapC W b kd ky vl cp) (hb : Below W.heap.size W W') : MapC W' b kd ky vl cp := ⟨cn hb h.1, cn hb h.2.1, cn hb h.2.2.1, cn hb h.2.2.2⟩
def InsC (W : World) (b : Nat) : Prop := InsAt W b 0 xI
theorem InsC.kept {W W' : World} {b : Nat} (h : InsC W b) (hb : Below W.heap.size W W') : InsC W' b := ⟨cn hb h.1, cn hb h.2.1, cn hb h.2.2.1, cn hb h.2.2.2.1, cn hb h.2.2.2.2⟩
/-- Here the walk stands still. -/
@[irreducible] def Stop (p : Prop) : Prop := p
theorem stop_app {P : Program} {ops : Array Oper} {Q : Exit → Act → World → Prop} {d : Option Nat} {s x : Operand} {t u ty : TypeId} {ps : String} {af : Array _} {gd : _} {rest : List Oper} {a : Act} {w : World}
    (h : Stop (wpList P ops Q (⟨d, .call { callee := .builtin .append, args := #[s, x], argTypes := #[t, u] }, ty, ps, af, gd⟩ :: rest) a w)) : wpList P ops Q (⟨d, .call { callee := .builtin .append, args := #[s, x], argTypes := #[t, u] }, ty, ps, af, gd⟩ :: rest) a w := by unfold Stop at h; exact h
/-- An append to a list of the call's own, at the head of a list of operations. -/
theorem list_app (w : World) {ops : Array Oper} {rest : List Oper} {o : Oper} {a : Act} {Q : Exit → Act → World → Prop} (hgd : o.guard = none) (s x : Operand) (t : TypeId)
    (ho : o.op = .call { callee := .builtin .append, args := #[s, x], argTypes := #[t, t] })
    (base : Nat) (e : TypeId) (i : TypeInfo) (z : Value) (size bytes : Nat) (ht : Tryd.prog.underlying t = some (.slice e)) (hi : Tryd.prog.info? e = some i) (hz : i.zero = some z)
    (hsize : i.size = size) (hby : i.bytes = bytes) (hzs : z.cells.size = size) (hsz : 0 < size) (v : Value) (n : Nat) (xs : List Value) (hsv : a.eval s = v) (hown : w.ownsRow base e size v n xs)
    (n₀ : Nat) (p : Option Addr) (m c : Nat) (news : List Value) (hx : a.eval x = .slice p m c) (hl : news.length = m * size) (hs : SrcP n₀ w p news) (h1 : ∀ u ∈ news, u.oneCell' = true)
    (h63 : n + m ≤ maxLen) (hbytes : (n + m) * bytes ≤ 140737488355328) (hbase : base ≤ w.heap.size)
    (h : ∀ v' w', w'.ownsRow base e size v' (n + m) (xs ++ news) → w.grownBy w' v.ownBlock → (v'.ownBlock = v.ownBlock ∨ v'.ownBlock = some w.heap.size) → wpList Tryd.prog ops Q rest (a.put o.dst v') w') :
    wpList Tryd.prog ops Q (o :: rest) a w := wpList_plain hgd fun _ hK => by
  obtain ⟨v', w', hrun, h2, h3, h4⟩ := run_app (P := Tryd.prog) w base t o.type e i z size bytes ht hi hz hsize hby hzs hsz v n xs hown n₀ p m c news hl hs h1 h63 hbytes hbase
  unfold Oper.wp execOp
  simp only [ho, resolve, invoke, builtin, Sem.run_bind, Sem.run_pure, Result.andThen_ok, List.map_toArray, List.map_cons, List.map_nil, hsv, hx, hrun]
  exact hK _ _ (h v' w' h2 h3 h4)

end Go.Proofs.YtodmikjpmcabiabDoor
